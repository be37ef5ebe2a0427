/- Cexpr; Cst0; KStmts. -/
import Derived.Deep.Upon
import Derived.Test.YtkmdamljhagogaaDoorPartR11
import Derived.Test.YtkmdamljhagogaaDoorPartR13
section
/- The document's own look at an expression. -/
namespace Go.Proofs.YtkmdamljhagogaaDoor
open Go.RowKit

def CEx (x : Ex) : Prop := ∀ (cb fb wb : Nat) (F : AMap) (v : Int) (nm : List Bs) (s : Slc) (W : WS) (r : RawE) (w : World), CI cb fb wb F v W w → ExOk w (fun k => k ≠ wb) r x → Sl encN 1 w s.v nm → (∀ b, s.v.ownBlock = some b → b ≠ wb) → W.n + exN x ≤ 100000 →
  Calls Tryd.prog 40 #[.pointer (some ⟨cb, 0, none⟩), ev r, .slice s.a s.n s.c] w fun e w' => e = .returned (.int .i64 (exC F.f nm x W).e) ∧ Fr (fun k => k = wb) w w' ∧ ((exC F.f nm x W).e = 0 → CI cb fb wb F v (exC F.f nm x W).W w')
theorem exC_mk (F : Bs → Option Int) (nm : List Bs) (k n : Int) (t : Bs) (a : List Ex) (W : WS) : exC F nm (.mk k n t a) W = EW.or ⟨exE F nm k t a.length, exW k t W⟩ (exsC F nm a) := by rw [exC]
theorem exsC_cons (F : Bs → Option Int) (nm : List Bs) (x : Ex) (l : List Ex) (W : WS) : exsC F nm (x :: l) W = (exC F nm x W).or (exsC F nm l) := by rw [exsC]
theorem exsC_nil (F : Bs → Option Int) (nm : List Bs) (W : WS) : exsC F nm [] W = ⟨0, W⟩ := by rw [exsC]
theorem or_bad {r : EW} {g : WS → EW} (h : r.e ≠ 0) : r.or g = r := by simp [EW.or, h]
theorem or_ok {r : EW} {g : WS → EW} (h : r.e = 0) : r.or g = g r.W := by simp [EW.or, h]
set_option maxHeartbeats 1000000 in
set_option maxRecDepth 20000 in
theorem cexpr_noname (k n : Int) (t : Bs) (a : List Ex) (cb fb wb : Nat) (F : AMap) (v : Int) (nm : List Bs) (s : Slc) (W : WS) (sl : Slc) (rs : List RawE) (w : World) (h : CI cb fb wb F v W w) (hs1 : Sl encE 4 w sl.v rs) (hP1 : ∀ b, sl.v.ownBlock = some b → b ≠ wb) (hl1 : rs.length = a.length)
    (_he1 : ∀ (i : Nat) (r : RawE) (x : Ex), rs[i]? = some r → a[i]? = some x → ExOk w (fun k => k ≠ wb) r x) (hs : Sl encN 1 w s.v nm) (hsb : ∀ b, s.v.ownBlock = some b → b ≠ wb) (ht : t.length ≤ 1500) (_hW : W.n + exN (.mk k n t a) ≤ 100000) (_ih : ∀ x ∈ a, CEx x) (hk : k = 3) (hc : nm.contains t = false) :
    Calls Tryd.prog 40 #[.pointer (some ⟨cb, 0, none⟩), ev ⟨k, n, t, sl⟩, .slice s.a s.n s.c] w fun e w' => e = .returned (.int .i64 6) ∧ Fr (fun k => k = wb) w w' := by
  have hF0 : Fr nothing w (w.alloc (eo ⟨k, n, t, sl⟩)) := (Fr.refl _ w).alloc _
  have hC0 := h.fr hF0 id id id
  have hS0 := hs.fr hF0 (fun _ _ => id)
  have hlk := hC0.fm.look2 t (by omega)
  have hlk2 : (Instr.lookup 55 (.map (some fb)) (.string (bs t)) true).run Tryd.prog (w.alloc (eo ⟨k, n, t, sl⟩)).drew = .ok (.tuple #[.int .i64 ((F.f t).getD 0), .bool (F.f t).isSome]) (w.alloc (eo ⟨k, n, t, sl⟩)).drew := (hC0.fr (S := nothing) (Fr.refl nothing _).drew id id id).fm.look2 t (by omega)
  have hb := (made_cells (Fr.refl nothing (w.alloc (eo ⟨k, n, t, sl⟩))) id)
  have b0 : (w.alloc (eo ⟨k, n, t, sl⟩)).cell? ⟨w.heap.size, 0, none⟩ = some (.int .i64 k) := hb.1 0
  have b2 : (w.alloc (eo ⟨k, n, t, sl⟩)).cell? ⟨w.heap.size, 2, none⟩ = some (.string (bs t)) := hb.1 2
  have b3 : (w.alloc (eo ⟨k, n, t, sl⟩)).cell? ⟨w.heap.size, 3, none⟩ = some (.slice sl.a sl.n sl.c) := hb.1 3
  have hbl := hb.2.2
  have d0 := hC0.c0
  have d2 := hC0.c2
  have dl := hC0.lt
  obtain ⟨hln, hlm⟩ := sl_len hs1
  have HC0 := hide hC0
  have HC := hide h
  have HF0 := hide hF0
  have HSN := hide hs
  have HHAS := hide (fun w' (hf : Fr (fun k => k = wb) w w') => has_any s nm t w' (hs.keep hf hsb (fun k hk e => hk e)))
  have hnc := h.lt
  have p3 : (k == 3) = true := by simpa using hk
  have q2 : ¬ k = 2 := by omega
  have p2 : (k == 2) = false := by simpa using q2
  clear hk
  rw [hc] at HHAS
  clear h hF0 hC0 hS0 hb hs hlk
  generalize hwa : w.alloc (eo ⟨k, n, t, sl⟩) = wa at *
  obtain ⟨la, lb, lc⟩ := sl
  simp only at hln b3
  rw [hl1] at hln
  subst hln
  go_enter Tryd.func40, Tryd.ntmps40
  go_wp2_with fail
  go_region
  all_goals go_wp2_with (go_at_call 27; refine (HHAS.out _ (HF0.out.mono (fun _ _ e => e.elim)).drew).mono ?_; rintro e w4 ⟨rfl, rfl⟩)
  all_goals go_ret
  all_goals exact ⟨rfl, (HF0.out.mono (fun _ _ e => e.elim)).drew⟩
set_option maxHeartbeats 1000000 in
set_option maxRecDepth 20000 in
theorem cexpr_nofn (k n : Int) (t : Bs) (a : List Ex) (cb fb wb : Nat) (F : AMap) (v : Int) (nm : List Bs) (s : Slc) (W : WS) (sl : Slc) (rs : List RawE) (w : World) (h : CI cb fb wb F v W w) (hs1 : Sl encE 4 w sl.v rs) (hP1 : ∀ b, sl.v.ownBlock = some b → b ≠ wb) (hl1 : rs.length = a.length)
    (_he1 : ∀ (i : Nat) (r : RawE) (x : Ex), rs[i]? = some r → a[i]? = some x → ExOk w (fun k => k ≠ wb) r x) (hs : Sl encN 1 w s.v nm) (hsb : ∀ b, s.v.ownBlock = some b → b ≠ wb) (ht : t.length ≤ 1500) (_hW : W.n + exN (.mk k n t a) ≤ 100000) (_ih : ∀ x ∈ a, CEx x) (hk : k = 11) (hc : F.f t = none) :
    Calls Tryd.prog 40 #[.pointer (some ⟨cb, 0, none⟩), ev ⟨k, n, t, sl⟩, .slice s.a s.n s.c] w fun e w' => e = .returned (.int .i64 6) ∧ Fr (fun k => k = wb) w w' := by
  have hF0 : Fr nothing w (w.alloc (eo ⟨k, n, t, sl⟩)) := (Fr.refl _ w).alloc _
  have hC0 := h.fr hF0 id id id
  have hS0 := hs.fr hF0 (fun _ _ => id)
  have hlk := hC0.fm.look2 t (by omega)
  have hlk2 : (Instr.lookup 55 (.map (some fb)) (.string (bs t)) true).run Tryd.prog (w.alloc (eo ⟨k, n, t, sl⟩)).drew = .ok (.tuple #[.int .i64 ((F.f t).getD 0), .bool (F.f t).isSome]) (w.alloc (eo ⟨k, n, t, sl⟩)).drew := (hC0.fr (S := nothing) (Fr.refl nothing _).drew id id id).fm.look2 t (by omega)
  have hb := (made_cells (Fr.refl nothing (w.alloc (eo ⟨k, n, t, sl⟩))) id)
  have b0 : (w.alloc (eo ⟨k, n, t, sl⟩)).cell? ⟨w.heap.size, 0, none⟩ = some (.int .i64 k) := hb.1 0
  have b2 : (w.alloc (eo ⟨k, n, t, sl⟩)).cell? ⟨w.heap.size, 2, none⟩ = some (.string (bs t)) := hb.1 2
  have b3 : (w.alloc (eo ⟨k, n, t, sl⟩)).cell? ⟨w.heap.size, 3, none⟩ = some (.slice sl.a sl.n sl.c) := hb.1 3
  have hbl := hb.2.2
  have d0 := hC0.c0
  have d2 := hC0.c2
  have dl := hC0.lt
  obtain ⟨hln, hlm⟩ := sl_len hs1
  have HC0 := hide hC0
  have HC := hide h
  have HF0 := hide hF0
  have HSN := hide hs
  have HHAS := hide (fun w' (hf : Fr (fun k => k = wb) w w') => has_any s nm t w' (hs.keep hf hsb (fun k hk e => hk e)))
  have hnc := h.lt
  have p11 : (k == 11) = true := by simpa using hk
  have q2 : ¬ k = 2 := by omega
  have p2 : (k == 2) = false := by simpa using q2
  have q3 : ¬ k = 3 := by omega
  have p3 : (k == 3) = false := by simpa using q3
  clear hk
  rw [hc] at hlk2
  clear h hF0 hC0 hS0 hb hs hlk
  generalize hwa : w.alloc (eo ⟨k, n, t, sl⟩) = wa at *
  obtain ⟨la, lb, lc⟩ := sl
  simp only at hln b3
  rw [hl1] at hln
  subst hln
  go_enter Tryd.func40, Tryd.ntmps40
  go_wp2_with fail
  go_region
  all_goals go_wp2_with (go_at_call 27; refine (HHAS.out _ (HF0.out.mono (fun _ _ e => e.elim)).drew).mono ?_; rintro e w4 ⟨rfl, rfl⟩)
  all_goals go_ret
  all_goals exact ⟨rfl, (HF0.out.mono (fun _ _ e => e.elim)).drew⟩
set_option maxHeartbeats 1000000 in
set_option maxRecDepth 20000 in
theorem cexpr_many (k n : Int) (t : Bs) (a : List Ex) (cb fb wb : Nat) (F : AMap) (v : Int) (nm : List Bs) (s : Slc) (W : WS) (sl : Slc) (rs : List RawE) (w : World) (h : CI cb fb wb F v W w) (hs1 : Sl encE 4 w sl.v rs) (hP1 : ∀ b, sl.v.ownBlock = some b → b ≠ wb) (hl1 : rs.length = a.length)
    (_he1 : ∀ (i : Nat) (r : RawE) (x : Ex), rs[i]? = some r → a[i]? = some x → ExOk w (fun k => k ≠ wb) r x) (hs : Sl encN 1 w s.v nm) (hsb : ∀ b, s.v.ownBlock = some b → b ≠ wb) (ht : t.length ≤ 1500) (_hW : W.n + exN (.mk k n t a) ≤ 100000) (_ih : ∀ x ∈ a, CEx x) (hk : k = 11) {m : Int} (hc : F.f t = some m) (hm : m ≠ a.length) :
    Calls Tryd.prog 40 #[.pointer (some ⟨cb, 0, none⟩), ev ⟨k, n, t, sl⟩, .slice s.a s.n s.c] w fun e w' => e = .returned (.int .i64 5) ∧ Fr (fun k => k = wb) w w' := by
  have hF0 : Fr nothing w (w.alloc (eo ⟨k, n, t, sl⟩)) := (Fr.refl _ w).alloc _
  have hC0 := h.fr hF0 id id id
  have hS0 := hs.fr hF0 (fun _ _ => id)
  have hlk := hC0.fm.look2 t (by omega)
  have hlk2 : (Instr.lookup 55 (.map (some fb)) (.string (bs t)) true).run Tryd.prog (w.alloc (eo ⟨k, n, t, sl⟩)).drew = .ok (.tuple #[.int .i64 ((F.f t).getD 0), .bool (F.f t).isSome]) (w.alloc (eo ⟨k, n, t, sl⟩)).drew := (hC0.fr (S := nothing) (Fr.refl nothing _).drew id id id).fm.look2 t (by omega)
  have hb := (made_cells (Fr.refl nothing (w.alloc (eo ⟨k, n, t, sl⟩))) id)
  have b0 : (w.alloc (eo ⟨k, n, t, sl⟩)).cell? ⟨w.heap.size, 0, none⟩ = some (.int .i64 k) := hb.1 0
  have b2 : (w.alloc (eo ⟨k, n, t, sl⟩)).cell? ⟨w.heap.size, 2, none⟩ = some (.string (bs t)) := hb.1 2
  have b3 : (w.alloc (eo ⟨k, n, t, sl⟩)).cell? ⟨w.heap.size, 3, none⟩ = some (.slice sl.a sl.n sl.c) := hb.1 3
  have hbl := hb.2.2
  have d0 := hC0.c0
  have d2 := hC0.c2
  have dl := hC0.lt
  obtain ⟨hln, hlm⟩ := sl_len hs1
  have HC0 := hide hC0
  have HC := hide h
  have HF0 := hide hF0
  have HSN := hide hs
  have HHAS := hide (fun w' (hf : Fr (fun k => k = wb) w w') => has_any s nm t w' (hs.keep hf hsb (fun k hk e => hk e)))
  have hnc := h.lt
  have p11 : (k == 11) = true := by simpa using hk
  have q2 : ¬ k = 2 := by omega
  have p2 : (k == 2) = false := by simpa using q2
  have q3 : ¬ k = 3 := by omega
  have p3 : (k == 3) = false := by simpa using q3
  clear hk
  rw [hc] at hlk2
  have m1 : ¬ m = (a.length : Int) := hm
  have m2 := ne_bne m1
  clear h hF0 hC0 hS0 hb hs hlk
  generalize hwa : w.alloc (eo ⟨k, n, t, sl⟩) = wa at *
  obtain ⟨la, lb, lc⟩ := sl
  simp only at hln b3
  rw [hl1] at hln
  subst hln
  go_enter Tryd.func40, Tryd.ntmps40
  go_wp2_with fail
  go_region
  all_goals go_wp2_with (go_at_call 27; refine (HHAS.out _ (HF0.out.mono (fun _ _ e => e.elim)).drew).mono ?_; rintro e w4 ⟨rfl, rfl⟩)
  all_goals go_ret
  all_goals exact ⟨rfl, (HF0.out.mono (fun _ _ e => e.elim)).drew⟩
set_option maxHeartbeats 1000000 in
set_option maxRecDepth 20000 in
theorem cexpr_name (k n : Int) (t : Bs) (a : List Ex) (cb fb wb : Nat) (F : AMap) (v : Int) (nm : List Bs) (s : Slc) (W : WS) (sl : Slc) (rs : List RawE) (w : World) (h : CI cb fb wb F v W w) (hs1 : Sl encE 4 w sl.v rs) (hP1 : ∀ b, sl.v.ownBlock = some b → b ≠ wb) (hl1 : rs.length = a.length)
    (he1 : ∀ (i : Nat) (r : RawE) (x : Ex), rs[i]? = some r → a[i]? = some x → ExOk w (fun k => k ≠ wb) r x) (hs : Sl encN 1 w s.v nm) (hsb : ∀ b, s.v.ownBlock = some b → b ≠ wb) (ht : t.length ≤ 1500) (hW : W.n + exN (.mk k n t a) ≤ 100000) (ih : ∀ x ∈ a, CEx x) (hk : k = 3) (hc : nm.contains t = true) :
    Calls Tryd.prog 40 #[.pointer (some ⟨cb, 0, none⟩), ev ⟨k, n, t, sl⟩, .slice s.a s.n s.c] w fun e w' => e = .returned (.int .i64 (exsC F.f nm a W).e) ∧ Fr (fun k => k = wb) w w' ∧ ((exsC F.f nm a W).e = 0 → CI cb fb wb F v (exsC F.f nm a W).W w') := by
  have hF0 : Fr nothing w (w.alloc (eo ⟨k, n, t, sl⟩)) := (Fr.refl _ w).alloc _
  have hC0 := h.fr hF0 id id id
  have hS0 := hs.fr hF0 (fun _ _ => id)
  have hlk := hC0.fm.look2 t (by omega)
  have hlk2 : (Instr.lookup 55 (.map (some fb)) (.string (bs t)) true).run Tryd.prog (w.alloc (eo ⟨k, n, t, sl⟩)).drew = .ok (.tuple #[.int .i64 ((F.f t).getD 0), .bool (F.f t).isSome]) (w.alloc (eo ⟨k, n, t, sl⟩)).drew := (hC0.fr (S := nothing) (Fr.refl nothing _).drew id id id).fm.look2 t (by omega)
  have hb := (made_cells (Fr.refl nothing (w.alloc (eo ⟨k, n, t, sl⟩))) id)
  have b0 : (w.alloc (eo ⟨k, n, t, sl⟩)).cell? ⟨w.heap.size, 0, none⟩ = some (.int .i64 k) := hb.1 0
  have b2 : (w.alloc (eo ⟨k, n, t, sl⟩)).cell? ⟨w.heap.size, 2, none⟩ = some (.string (bs t)) := hb.1 2
  have b3 : (w.alloc (eo ⟨k, n, t, sl⟩)).cell? ⟨w.heap.size, 3, none⟩ = some (.slice sl.a sl.n sl.c) := hb.1 3
  have hbl := hb.2.2
  have d0 := hC0.c0
  have d2 := hC0.c2
  have dl := hC0.lt
  obtain ⟨hln, hlm⟩ := sl_len hs1
  have HC0 := hide hC0
  have HC := hide h
  have HF0 := hide hF0
  have HSN := hide hs
  have HHAS := hide (fun w' (hf : Fr (fun k => k = wb) w w') => has_any s nm t w' (hs.keep hf hsb (fun k hk e => hk e)))
  have hnc := h.lt
  have p3 : (k == 3) = true := by simpa using hk
  have q2 : ¬ k = 2 := by omega
  have p2 : (k == 2) = false := by simpa using q2
  have q11 : ¬ k = 11 := by omega
  have p11 : (k == 11) = false := by simpa using q11
  clear hk
  rw [hc] at HHAS
  have HWL : Hid (W.n + exsN a ≤ 100000) := by show _ ≤ _; rw [exN] at hW; omega
  clear h hF0 hC0 hS0 hb hs hlk
  generalize hwa : w.alloc (eo ⟨k, n, t, sl⟩) = wa at *
  obtain ⟨la, lb, lc⟩ := sl
  simp only at hln b3
  rw [hl1] at hln
  subst hln
  go_enter Tryd.func40, Tryd.ntmps40
  go_wp2_with fail
  go_region
  go_wp2_with (go_at_call 27; refine (HHAS.out _ (HF0.out.mono (fun _ _ e => e.elim)).drew).mono ?_; rintro e w4 ⟨rfl, rfl⟩)
  have HFL : Hid (Fr (fun k => k = wb) w wa.drew) := (HF0.out.mono (fun _ _ e => e.elim)).drew
  have HCL : Hid (CI cb fb wb F v W wa.drew) := HC0.out.fr (S := nothing) (Fr.refl nothing wa).drew id id id
  generalize hwl : wa.drew = wl at *
  clear hwl
  go_loopw [64, 10, 11] (fun i _ _ wr => ∃ (j : Nat) (Wj : WS), j ≤ a.length ∧ i = .int .i64 j ∧ Hid (CI cb fb wb F v Wj wr ∧ Fr (fun k => k = wb) w wr ∧ exsC F.f nm a W = exsC F.f nm (a.drop j) Wj ∧ Wj.n + exsN (a.drop j) ≤ 100000)) (fun i _ _ _ => a.length - (intOf i).toNat)
  case atStart => exact ⟨0, W, Nat.zero_le _, rfl, HCL.out, HFL.out, rfl, HWL.out⟩
  case round =>
    obtain ⟨j, Wj, hj, rfl, hR⟩ := hrel
    by_cases hjl : j < a.length
    · have hx : a[j]? = some a[j] := List.getElem?_eq_getElem hjl
      have hr : rs[j]? = some (rs[j]'(by omega)) := List.getElem?_eq_getElem _
      have hxm : a[j] ∈ a := List.getElem_mem hjl
      have hdr : a.drop j = a[j] :: a.drop (j + 1) := List.drop_eq_getElem_cons hjl
      generalize rs[j]'(by omega) = r at hr
      generalize a[j] = x at hx hxm hdr
      have hok := he1 j r x hr hx
      obtain ⟨g, o, hg, -, dg, p0, p1, p2, p3⟩ := sl_elem4 (s := ⟨la, a.length, lc⟩) hs1 hr
      simp only at hg
      subst hg
      have hgw : g ≠ wb := hP1 g rfl
      rw [← hR.out.2.1.cell (p := ⟨g, _, none⟩) dg hgw] at p0 p1 p2 p3
      have eg : g < wr.heap.size := Nat.lt_of_lt_of_le dg hR.out.2.1.size
      have hexs := hR.out.2.2.1
      rw [hdr, exsC_cons] at hexs
      have hcost : Wj.n + exN x + exsN (a.drop (j + 1)) ≤ 100000 := by
        have := hR.out.2.2.2
        rw [hdr, exsN] at this
        omega
      have hFA : Fr (fun k => k = wb) w (wr.alloc (eo r)) := hR.out.2.1.alloc _
      have HIH := hide (ih x hxm cb fb wb F v nm s Wj r (wr.alloc (eo r)) (hR.out.1.fr (S := nothing) ((Fr.refl nothing wr).alloc _) id id id) (ex_stays _ _ _ _ _ _ _ hok hFA (fun k hk e => hk e) (fun _ hk => hk)) (HSN.out.keep hFA hsb (fun k hk e => hk e)) hsb (by omega))
      have hle := exC_le F.f nm x Wj
      generalize hq : exC F.f nm x Wj = q at HIH hexs hle
      have HEX := hide hexs
      have HFA := hide hFA
      clear hok hexs hFA hq hr hx
      obtain ⟨qe, qW⟩ := q
      simp only at HIH hle
      by_cases hq0 : qe = 0
      · subst hq0
        have HEX2 : Hid (exsC F.f nm a W = exsC F.f nm (a.drop (j + 1)) qW) := by
          show exsC F.f nm a W = _
          rw [HEX.out]; rfl
        go_wp2_with (go_at_call 40; refine HIH.out.mono ?_; rintro e w7 ⟨rfl, hf, hc⟩; have HC7 := hide (hc rfl); have HF7 := hide (HFA.out.trans hf); clear hf hc)
        go_roundw
        case rel => exact ⟨j + 1, qW, by omega, by go_num, HC7.out, HF7.out, HEX2.out, by omega⟩
        case measure => simp [intOf]; omega
      · have hq1 : (qe == 0) = false := by simpa using hq0
        have hq2 := ne_bne hq0
        have HEX2 : Hid (exsC F.f nm a W = ⟨qe, qW⟩) := by
          show exsC F.f nm a W = _
          rw [HEX.out]; exact or_bad hq0
        go_wp2_with (go_at_call 40; refine HIH.out.mono ?_; rintro e w7 ⟨rfl, hf, hc⟩; have HF7 := hide (HFA.out.trans hf); clear hf hc)
        go_ret
        rw [HEX2.out]
        exact ⟨rfl, HF7.out, fun e => absurd e hq0⟩
    · have hja : j = a.length := by omega
      have HEX2 : Hid (exsC F.f nm a W = ⟨0, Wj⟩) := by
        show exsC F.f nm a W = _
        rw [hR.out.2.2.1, hja, List.drop_length, exsC_nil]
      clear hja
      go_wp2
      go_ret
      rw [HEX2.out]
      exact ⟨rfl, hR.out.2.1, fun _ => hR.out.1⟩
set_option maxHeartbeats 1000000 in
set_option maxRecDepth 20000 in
theorem cexpr_call (k n : Int) (t : Bs) (a : List Ex) (cb fb wb : Nat) (F : AMap) (v : Int) (nm : List Bs) (s : Slc) (W : WS) (sl : Slc) (rs : List RawE) (w : World) (h : CI cb fb wb F v W w) (hs1 : Sl encE 4 w sl.v rs) (hP1 : ∀ b, sl.v.ownBlock = some b → b ≠ wb) (hl1 : rs.length = a.length)
    (he1 : ∀ (i : Nat) (r : RawE) (x : Ex), rs[i]? = some r → a[i]? = some x → ExOk w (fun k => k ≠ wb) r x) (hs : Sl encN 1 w s.v nm) (hsb : ∀ b, s.v.ownBlock = some b → b ≠ wb) (ht : t.length ≤ 1500) (hW : W.n + exN (.mk k n t a) ≤ 100000) (ih : ∀ x ∈ a, CEx x) (hk : k = 11) (hc : F.f t = some (a.length : Int)) :
    Calls Tryd.prog 40 #[.pointer (some ⟨cb, 0, none⟩), ev ⟨k, n, t, sl⟩, .slice s.a s.n s.c] w fun e w' => e = .returned (.int .i64 (exsC F.f nm a W).e) ∧ Fr (fun k => k = wb) w w' ∧ ((exsC F.f nm a W).e = 0 → CI cb fb wb F v (exsC F.f nm a W).W w') := by
  have hF0 : Fr nothing w (w.alloc (eo ⟨k, n, t, sl⟩)) := (Fr.refl _ w).alloc _
  have hC0 := h.fr hF0 id id id
  have hS0 := hs.fr hF0 (fun _ _ => id)
  have hlk := hC0.fm.look2 t (by omega)
  have hlk2 : (Instr.lookup 55 (.map (some fb)) (.string (bs t)) true).run Tryd.prog (w.alloc (eo ⟨k, n, t, sl⟩)).drew = .ok (.tuple #[.int .i64 ((F.f t).getD 0), .bool (F.f t).isSome]) (w.alloc (eo ⟨k, n, t, sl⟩)).drew := (hC0.fr (S := nothing) (Fr.refl nothing _).drew id id id).fm.look2 t (by omega)
  have hb := (made_cells (Fr.refl nothing (w.alloc (eo ⟨k, n, t, sl⟩))) id)
  have b0 : (w.alloc (eo ⟨k, n, t, sl⟩)).cell? ⟨w.heap.size, 0, none⟩ = some (.int .i64 k) := hb.1 0
  have b2 : (w.alloc (eo ⟨k, n, t, sl⟩)).cell? ⟨w.heap.size, 2, none⟩ = some (.string (bs t)) := hb.1 2
  have b3 : (w.alloc (eo ⟨k, n, t, sl⟩)).cell? ⟨w.heap.size, 3, none⟩ = some (.slice sl.a sl.n sl.c) := hb.1 3
  have hbl := hb.2.2
  have d0 := hC0.c0
  have d2 := hC0.c2
  have dl := hC0.lt
  obtain ⟨hln, hlm⟩ := sl_len hs1
  have HC0 := hide hC0
  have HC := hide h
  have HF0 := hide hF0
  have HSN := hide hs
  have HHAS := hide (fun w' (hf : Fr (fun k => k = wb) w w') => has_any s nm t w' (hs.keep hf hsb (fun k hk e => hk e)))
  have hnc := h.lt
  have p11 : (k == 11) = true := by simpa using hk
  have q2 : ¬ k = 2 := by omega
  have p2 : (k == 2) = false := by simpa using q2
  have q3 : ¬ k = 3 := by omega
  have p3 : (k == 3) = false := by simpa using q3
  clear hk
  rw [hc] at hlk2
  have HWL : Hid (W.n + exsN a ≤ 100000) := by show _ ≤ _; rw [exN] at hW; omega
  clear h hF0 hC0 hS0 hb hs hlk
  generalize hwa : w.alloc (eo ⟨k, n, t, sl⟩) = wa at *
  obtain ⟨la, lb, lc⟩ := sl
  simp only at hln b3
  rw [hl1] at hln
  subst hln
  go_enter Tryd.func40, Tryd.ntmps40
  go_wp2_with fail
  go_region
  go_wp2_with (go_at_call 27; refine (HHAS.out _ (HF0.out.mono (fun _ _ e => e.elim)).drew).mono ?_; rintro e w4 ⟨rfl, rfl⟩)
  have HFL : Hid (Fr (fun k => k = wb) w wa.drew) := (HF0.out.mono (fun _ _ e => e.elim)).drew
  have HCL : Hid (CI cb fb wb F v W wa.drew) := HC0.out.fr (S := nothing) (Fr.refl nothing wa).drew id id id
  generalize hwl : wa.drew = wl at *
  clear hwl
  go_loopw [64, 10, 11] (fun i _ _ wr => ∃ (j : Nat) (Wj : WS), j ≤ a.length ∧ i = .int .i64 j ∧ Hid (CI cb fb wb F v Wj wr ∧ Fr (fun k => k = wb) w wr ∧ exsC F.f nm a W = exsC F.f nm (a.drop j) Wj ∧ Wj.n + exsN (a.drop j) ≤ 100000)) (fun i _ _ _ => a.length - (intOf i).toNat)
  case atStart => exact ⟨0, W, Nat.zero_le _, rfl, HCL.out, HFL.out, rfl, HWL.out⟩
  case round =>
    obtain ⟨j, Wj, hj, rfl, hR⟩ := hrel
    by_cases hjl : j < a.length
    · have hx : a[j]? = some a[j] := List.getElem?_eq_getElem hjl
      have hr : rs[j]? = some (rs[j]'(by omega)) := List.getElem?_eq_getElem _
      have hxm : a[j] ∈ a := List.getElem_mem hjl
      have hdr : a.drop j = a[j] :: a.drop (j + 1) := List.drop_eq_getElem_cons hjl
      generalize rs[j]'(by omega) = r at hr
      generalize a[j] = x at hx hxm hdr
      have hok := he1 j r x hr hx
      obtain ⟨g, o, hg, -, dg, p0, p1, p2, p3⟩ := sl_elem4 (s := ⟨la, a.length, lc⟩) hs1 hr
      simp only at hg
      subst hg
      have hgw : g ≠ wb := hP1 g rfl
      rw [← hR.out.2.1.cell (p := ⟨g, _, none⟩) dg hgw] at p0 p1 p2 p3
      have eg : g < wr.heap.size := Nat.lt_of_lt_of_le dg hR.out.2.1.size
      have hexs := hR.out.2.2.1
      rw [hdr, exsC_cons] at hexs
      have hcost : Wj.n + exN x + exsN (a.drop (j + 1)) ≤ 100000 := by
        have := hR.out.2.2.2
        rw [hdr, exsN] at this
        omega
      have hFA : Fr (fun k => k = wb) w (wr.alloc (eo r)) := hR.out.2.1.alloc _
      have HIH := hide (ih x hxm cb fb wb F v nm s Wj r (wr.alloc (eo r)) (hR.out.1.fr (S := nothing) ((Fr.refl nothing wr).alloc _) id id id) (ex_stays _ _ _ _ _ _ _ hok hFA (fun k hk e => hk e) (fun _ hk => hk)) (HSN.out.keep hFA hsb (fun k hk e => hk e)) hsb (by omega))
      have hle := exC_le F.f nm x Wj
      generalize hq : exC F.f nm x Wj = q at HIH hexs hle
      have HEX := hide hexs
      have HFA := hide hFA
      clear hok hexs hFA hq hr hx
      obtain ⟨qe, qW⟩ := q
      simp only at HIH hle
      by_cases hq0 : qe = 0
      · subst hq0
        have HEX2 : Hid (exsC F.f nm a W = exsC F.f nm (a.drop (j + 1)) qW) := by
          show exsC F.f nm a W = _
          rw [HEX.out]; rfl
        go_wp2_with (go_at_call 40; refine HIH.out.mono ?_; rintro e w7 ⟨rfl, hf, hc⟩; have HC7 := hide (hc rfl); have HF7 := hide (HFA.out.trans hf); clear hf hc)
        go_roundw
        case rel => exact ⟨j + 1, qW, by omega, by go_num, HC7.out, HF7.out, HEX2.out, by omega⟩
        case measure => simp [intOf]; omega
      · have hq1 : (qe == 0) = false := by simpa using hq0
        have hq2 := ne_bne hq0
        have HEX2 : Hid (exsC F.f nm a W = ⟨qe, qW⟩) := by
          show exsC F.f nm a W = _
          rw [HEX.out]; exact or_bad hq0
        go_wp2_with (go_at_call 40; refine HIH.out.mono ?_; rintro e w7 ⟨rfl, hf, hc⟩; have HF7 := hide (HFA.out.trans hf); clear hf hc)
        go_ret
        rw [HEX2.out]
        exact ⟨rfl, HF7.out, fun e => absurd e hq0⟩
    · have hja : j = a.length := by omega
      have HEX2 : Hid (exsC F.f nm a W = ⟨0, Wj⟩) := by
        show exsC F.f nm a W = _
        rw [hR.out.2.2.1, hja, List.drop_length, exsC_nil]
      clear hja
      go_wp2
      go_ret
      rw [HEX2.out]
      exact ⟨rfl, hR.out.2.1, fun _ => hR.out.1⟩
set_option maxHeartbeats 1000000 in
set_option maxRecDepth 20000 in
theorem cexpr_else (k n : Int) (t : Bs) (a : List Ex) (cb fb wb : Nat) (F : AMap) (v : Int) (nm : List Bs) (s : Slc) (W : WS) (sl : Slc) (rs : List RawE) (w : World) (h : CI cb fb wb F v W w) (hs1 : Sl encE 4 w sl.v rs) (hP1 : ∀ b, sl.v.ownBlock = some b → b ≠ wb) (hl1 : rs.length = a.length)
    (he1 : ∀ (i : Nat) (r : RawE) (x : Ex), rs[i]? = some r → a[i]? = some x → ExOk w (fun k => k ≠ wb) r x) (hs : Sl encN 1 w s.v nm) (hsb : ∀ b, s.v.ownBlock = some b → b ≠ wb) (ht : t.length ≤ 1500) (hW : W.n + exN (.mk k n t a) ≤ 100000) (ih : ∀ x ∈ a, CEx x) (h2 : k ≠ 2) (h3 : k ≠ 3) (h11 : k ≠ 11) :
    Calls Tryd.prog 40 #[.pointer (some ⟨cb, 0, none⟩), ev ⟨k, n, t, sl⟩, .slice s.a s.n s.c] w fun e w' => e = .returned (.int .i64 (exsC F.f nm a W).e) ∧ Fr (fun k => k = wb) w w' ∧ ((exsC F.f nm a W).e = 0 → CI cb fb wb F v (exsC F.f nm a W).W w') := by
  have hF0 : Fr nothing w (w.alloc (eo ⟨k, n, t, sl⟩)) := (Fr.refl _ w).alloc _
  have hC0 := h.fr hF0 id id id
  have hS0 := hs.fr hF0 (fun _ _ => id)
  have hlk := hC0.fm.look2 t (by omega)
  have hlk2 : (Instr.lookup 55 (.map (some fb)) (.string (bs t)) true).run Tryd.prog (w.alloc (eo ⟨k, n, t, sl⟩)).drew = .ok (.tuple #[.int .i64 ((F.f t).getD 0), .bool (F.f t).isSome]) (w.alloc (eo ⟨k, n, t, sl⟩)).drew := (hC0.fr (S := nothing) (Fr.refl nothing _).drew id id id).fm.look2 t (by omega)
  have hb := (made_cells (Fr.refl nothing (w.alloc (eo ⟨k, n, t, sl⟩))) id)
  have b0 : (w.alloc (eo ⟨k, n, t, sl⟩)).cell? ⟨w.heap.size, 0, none⟩ = some (.int .i64 k) := hb.1 0
  have b2 : (w.alloc (eo ⟨k, n, t, sl⟩)).cell? ⟨w.heap.size, 2, none⟩ = some (.string (bs t)) := hb.1 2
  have b3 : (w.alloc (eo ⟨k, n, t, sl⟩)).cell? ⟨w.heap.size, 3, none⟩ = some (.slice sl.a sl.n sl.c) := hb.1 3
  have hbl := hb.2.2
  have d0 := hC0.c0
  have d2 := hC0.c2
  have dl := hC0.lt
  obtain ⟨hln, hlm⟩ := sl_len hs1
  have HC0 := hide hC0
  have HC := hide h
  have HF0 := hide hF0
  have HSN := hide hs
  have HHAS := hide (fun w' (hf : Fr (fun k => k = wb) w w') => has_any s nm t w' (hs.keep hf hsb (fun k hk e => hk e)))
  have hnc := h.lt
  have q2 : ¬ k = 2 := by omega
  have p2 : (k == 2) = false := by simpa using q2
  have q3 : ¬ k = 3 := by omega
  have p3 : (k == 3) = false := by simpa using q3
  have q11 : ¬ k = 11 := by omega
  have p11 : (k == 11) = false := by simpa using q11
  have HWL : Hid (W.n + exsN a ≤ 100000) := by show _ ≤ _; rw [exN] at hW; omega
  clear h hF0 hC0 hS0 hb hs hlk
  generalize hwa : w.alloc (eo ⟨k, n, t, sl⟩) = wa at *
  obtain ⟨la, lb, lc⟩ := sl
  simp only at hln b3
  rw [hl1] at hln
  subst hln
  go_enter Tryd.func40, Tryd.ntmps40
  go_wp2_with fail
  go_region
  go_wp2_with (go_at_call 27; refine (HHAS.out _ (HF0.out.mono (fun _ _ e => e.elim)).drew).mono ?_; rintro e w4 ⟨rfl, rfl⟩)
  have HFL : Hid (Fr (fun k => k = wb) w wa.drew) := (HF0.out.mono (fun _ _ e => e.elim)).drew
  have HCL : Hid (CI cb fb wb F v W wa.drew) := HC0.out.fr (S := nothing) (Fr.refl nothing wa).drew id id id
  generalize hwl : wa.drew = wl at *
  clear hwl
  go_loopw [64, 10, 11] (fun i _ _ wr => ∃ (j : Nat) (Wj : WS), j ≤ a.length ∧ i = .int .i64 j ∧ Hid (CI cb fb wb F v Wj wr ∧ Fr (fun k => k = wb) w wr ∧ exsC F.f nm a W = exsC F.f nm (a.drop j) Wj ∧ Wj.n + exsN (a.drop j) ≤ 100000)) (fun i _ _ _ => a.length - (intOf i).toNat)
  case atStart => exact ⟨0, W, Nat.zero_le _, rfl, HCL.out, HFL.out, rfl, HWL.out⟩
  case round =>
    obtain ⟨j, Wj, hj, rfl, hR⟩ := hrel
    by_cases hjl : j < a.length
    · have hx : a[j]? = some a[j] := List.getElem?_eq_getElem hjl
      have hr : rs[j]? = some (rs[j]'(by omega)) := List.getElem?_eq_getElem _
      have hxm : a[j] ∈ a := List.getElem_mem hjl
      have hdr : a.drop j = a[j] :: a.drop (j + 1) := List.drop_eq_getElem_cons hjl
      generalize rs[j]'(by omega) = r at hr
      generalize a[j] = x at hx hxm hdr
      have hok := he1 j r x hr hx
      obtain ⟨g, o, hg, -, dg, p0, p1, p2, p3⟩ := sl_elem4 (s := ⟨la, a.length, lc⟩) hs1 hr
      simp only at hg
      subst hg
      have hgw : g ≠ wb := hP1 g rfl
      rw [← hR.out.2.1.cell (p := ⟨g, _, none⟩) dg hgw] at p0 p1 p2 p3
      have eg : g < wr.heap.size := Nat.lt_of_lt_of_le dg hR.out.2.1.size
      have hexs := hR.out.2.2.1
      rw [hdr, exsC_cons] at hexs
      have hcost : Wj.n + exN x + exsN (a.drop (j + 1)) ≤ 100000 := by
        have := hR.out.2.2.2
        rw [hdr, exsN] at this
        omega
      have hFA : Fr (fun k => k = wb) w (wr.alloc (eo r)) := hR.out.2.1.alloc _
      have HIH := hide (ih x hxm cb fb wb F v nm s Wj r (wr.alloc (eo r)) (hR.out.1.fr (S := nothing) ((Fr.refl nothing wr).alloc _) id id id) (ex_stays _ _ _ _ _ _ _ hok hFA (fun k hk e => hk e) (fun _ hk => hk)) (HSN.out.keep hFA hsb (fun k hk e => hk e)) hsb (by omega))
      have hle := exC_le F.f nm x Wj
      generalize hq : exC F.f nm x Wj = q at HIH hexs hle
      have HEX := hide hexs
      have HFA := hide hFA
      clear hok hexs hFA hq hr hx
      obtain ⟨qe, qW⟩ := q
      simp only at HIH hle
      by_cases hq0 : qe = 0
      · subst hq0
        have HEX2 : Hid (exsC F.f nm a W = exsC F.f nm (a.drop (j + 1)) qW) := by
          show exsC F.f nm a W = _
          rw [HEX.out]; rfl
        go_wp2_with (go_at_call 40; refine HIH.out.mono ?_; rintro e w7 ⟨rfl, hf, hc⟩; have HC7 := hide (hc rfl); have HF7 := hide (HFA.out.trans hf); clear hf hc)
        go_roundw
        case rel => exact ⟨j + 1, qW, by omega, by go_num, HC7.out, HF7.out, HEX2.out, by omega⟩
        case measure => simp [intOf]; omega
      · have hq1 : (qe == 0) = false := by simpa using hq0
        have hq2 := ne_bne hq0
        have HEX2 : Hid (exsC F.f nm a W = ⟨qe, qW⟩) := by
          show exsC F.f nm a W = _
          rw [HEX.out]; exact or_bad hq0
        go_wp2_with (go_at_call 40; refine HIH.out.mono ?_; rintro e w7 ⟨rfl, hf, hc⟩; have HF7 := hide (HFA.out.trans hf); clear hf hc)
        go_ret
        rw [HEX2.out]
        exact ⟨rfl, HF7.out, fun e => absurd e hq0⟩
    · have hja : j = a.length := by omega
      have HEX2 : Hid (exsC F.f nm a W = ⟨0, Wj⟩) := by
        show exsC F.f nm a W = _
        rw [hR.out.2.2.1, hja, List.drop_length, exsC_nil]
      clear hja
      go_wp2
      go_ret
      rw [HEX2.out]
      exact ⟨rfl, hR.out.2.1, fun _ => hR.out.1⟩
set_option maxHeartbeats 1000000 in
set_option maxRecDepth 20000 in
theorem cexpr_text (k n : Int) (t : Bs) (a : List Ex) (cb fb wb : Nat) (F : AMap) (v : Int) (nm : List Bs) (s : Slc) (W : WS) (sl : Slc) (rs : List RawE) (w : World) (h : CI cb fb wb F v W w) (hs1 : Sl encE 4 w sl.v rs) (hP1 : ∀ b, sl.v.ownBlock = some b → b ≠ wb) (hl1 : rs.length = a.length)
    (he1 : ∀ (i : Nat) (r : RawE) (x : Ex), rs[i]? = some r → a[i]? = some x → ExOk w (fun k => k ≠ wb) r x) (hs : Sl encN 1 w s.v nm) (hsb : ∀ b, s.v.ownBlock = some b → b ≠ wb) (ht : t.length ≤ 1500) (hW : W.n + exN (.mk k n t a) ≤ 100000) (ih : ∀ x ∈ a, CEx x) (hk : k = 2) :
    Calls Tryd.prog 40 #[.pointer (some ⟨cb, 0, none⟩), ev ⟨k, n, t, sl⟩, .slice s.a s.n s.c] w fun e w' => e = .returned (.int .i64 (exsC F.f nm a (W.add t)).e) ∧ Fr (fun k => k = wb) w w' ∧ ((exsC F.f nm a (W.add t)).e = 0 → CI cb fb wb F v (exsC F.f nm a (W.add t)).W w') := by
  have hF0 : Fr nothing w (w.alloc (eo ⟨k, n, t, sl⟩)) := (Fr.refl _ w).alloc _
  have hC0 := h.fr hF0 id id id
  have hS0 := hs.fr hF0 (fun _ _ => id)
  have hlk := hC0.fm.look2 t (by omega)
  have hlk2 : (Instr.lookup 55 (.map (some fb)) (.string (bs t)) true).run Tryd.prog (w.alloc (eo ⟨k, n, t, sl⟩)).drew = .ok (.tuple #[.int .i64 ((F.f t).getD 0), .bool (F.f t).isSome]) (w.alloc (eo ⟨k, n, t, sl⟩)).drew := (hC0.fr (S := nothing) (Fr.refl nothing _).drew id id id).fm.look2 t (by omega)
  have hb := (made_cells (Fr.refl nothing (w.alloc (eo ⟨k, n, t, sl⟩))) id)
  have b0 : (w.alloc (eo ⟨k, n, t, sl⟩)).cell? ⟨w.heap.size, 0, none⟩ = some (.int .i64 k) := hb.1 0
  have b2 : (w.alloc (eo ⟨k, n, t, sl⟩)).cell? ⟨w.heap.size, 2, none⟩ = some (.string (bs t)) := hb.1 2
  have b3 : (w.alloc (eo ⟨k, n, t, sl⟩)).cell? ⟨w.heap.size, 3, none⟩ = some (.slice sl.a sl.n sl.c) := hb.1 3
  have hbl := hb.2.2
  have d0 := hC0.c0
  have d2 := hC0.c2
  have dl := hC0.lt
  obtain ⟨hln, hlm⟩ := sl_len hs1
  have HC0 := hide hC0
  have HC := hide h
  have HF0 := hide hF0
  have HSN := hide hs
  have HHAS := hide (fun w' (hf : Fr (fun k => k = wb) w w') => has_any s nm t w' (hs.keep hf hsb (fun k hk e => hk e)))
  have hnc := h.lt
  have p2 : (k == 2) = true := by simpa using hk
  have HWL : Hid ((W.add t).n + exsN a ≤ 100000) := by show _ ≤ _; rw [exN] at hW; have := W.add_le t; omega
  obtain ⟨wt, rt, ht1, ht2⟩ := (h.fr ((Fr.refl nothing w).alloc (eo ⟨k, n, t, sl⟩)).drew.drew id id id).text t (by omega) (by omega)
  have HCT := hide ht1
  have HFT := hide ((((Fr.refl (fun k => k = wb) w).alloc (eo ⟨k, n, t, sl⟩)).drew.drew).trans ht2)
  have bt3 : wt.cell? ⟨w.heap.size, 3, none⟩ = some (.slice sl.a sl.n sl.c) := (ht2.cell (p := ⟨w.heap.size, 3, none⟩) (by show w.heap.size < (w.alloc _).heap.size; simp) (by show ¬ w.heap.size = wb; have h1 := h.wm; obtain ⟨A, a1, _⟩ := h1; have := a1.lt; omega)).trans b3
  have hblt : w.heap.size < wt.heap.size := Nat.lt_of_lt_of_le hbl ht2.size
  have hblt' := hblt
  clear hk ht1 ht2
  clear h hF0 hC0 hS0 hb hs hlk
  generalize hwa : w.alloc (eo ⟨k, n, t, sl⟩) = wa at *
  obtain ⟨la, lb, lc⟩ := sl
  simp only at hln b3
  rw [hl1] at hln
  subst hln
  go_enter Tryd.func40, Tryd.ntmps40
  go_wp2_with fail
  go_region
  go_wp2_with fail
  go_region
  go_wp2_with fail
  have HFL : Hid (Fr (fun k => k = wb) w wt) := HFT.out
  have HCL : Hid (CI cb fb wb F v (W.add t) wt) := HCT.out
  go_loopw [64, 10, 11] (fun i _ _ wr => ∃ (j : Nat) (Wj : WS), j ≤ a.length ∧ i = .int .i64 j ∧ Hid (CI cb fb wb F v Wj wr ∧ Fr (fun k => k = wb) w wr ∧ exsC F.f nm a (W.add t) = exsC F.f nm (a.drop j) Wj ∧ Wj.n + exsN (a.drop j) ≤ 100000)) (fun i _ _ _ => a.length - (intOf i).toNat)
  case atStart => exact ⟨0, (W.add t), Nat.zero_le _, rfl, HCL.out, HFL.out, rfl, HWL.out⟩
  case round =>
    obtain ⟨j, Wj, hj, rfl, hR⟩ := hrel
    by_cases hjl : j < a.length
    · have hx : a[j]? = some a[j] := List.getElem?_eq_getElem hjl
      have hr : rs[j]? = some (rs[j]'(by omega)) := List.getElem?_eq_getElem _
      have hxm : a[j] ∈ a := List.getElem_mem hjl
      have hdr : a.drop j = a[j] :: a.drop (j + 1) := List.drop_eq_getElem_cons hjl
      generalize rs[j]'(by omega) = r at hr
      generalize a[j] = x at hx hxm hdr
      have hok := he1 j r x hr hx
      obtain ⟨g, o, hg, -, dg, p0, p1, p2, p3⟩ := sl_elem4 (s := ⟨la, a.length, lc⟩) hs1 hr
      simp only at hg
      subst hg
      have hgw : g ≠ wb := hP1 g rfl
      rw [← hR.out.2.1.cell (p := ⟨g, _, none⟩) dg hgw] at p0 p1 p2 p3
      have eg : g < wr.heap.size := Nat.lt_of_lt_of_le dg hR.out.2.1.size
      have hexs := hR.out.2.2.1
      rw [hdr, exsC_cons] at hexs
      have hcost : Wj.n + exN x + exsN (a.drop (j + 1)) ≤ 100000 := by
        have := hR.out.2.2.2
        rw [hdr, exsN] at this
        omega
      have hFA : Fr (fun k => k = wb) w (wr.alloc (eo r)) := hR.out.2.1.alloc _
      have HIH := hide (ih x hxm cb fb wb F v nm s Wj r (wr.alloc (eo r)) (hR.out.1.fr (S := nothing) ((Fr.refl nothing wr).alloc _) id id id) (ex_stays _ _ _ _ _ _ _ hok hFA (fun k hk e => hk e) (fun _ hk => hk)) (HSN.out.keep hFA hsb (fun k hk e => hk e)) hsb (by omega))
      have hle := exC_le F.f nm x Wj
      generalize hq : exC F.f nm x Wj = q at HIH hexs hle
      have HEX := hide hexs
      have HFA := hide hFA
      clear hok hexs hFA hq hr hx
      obtain ⟨qe, qW⟩ := q
      simp only at HIH hle
      by_cases hq0 : qe = 0
      · subst hq0
        have HEX2 : Hid (exsC F.f nm a (W.add t) = exsC F.f nm (a.drop (j + 1)) qW) := by
          show exsC F.f nm a (W.add t) = _
          rw [HEX.out]; rfl
        go_wp2_with (go_at_call 40; refine HIH.out.mono ?_; rintro e w7 ⟨rfl, hf, hc⟩; have HC7 := hide (hc rfl); have HF7 := hide (HFA.out.trans hf); clear hf hc)
        go_roundw
        case rel => exact ⟨j + 1, qW, by omega, by go_num, HC7.out, HF7.out, HEX2.out, by omega⟩
        case measure => simp [intOf]; omega
      · have hq1 : (qe == 0) = false := by simpa using hq0
        have hq2 := ne_bne hq0
        have HEX2 : Hid (exsC F.f nm a (W.add t) = ⟨qe, qW⟩) := by
          show exsC F.f nm a (W.add t) = _
          rw [HEX.out]; exact or_bad hq0
        go_wp2_with (go_at_call 40; refine HIH.out.mono ?_; rintro e w7 ⟨rfl, hf, hc⟩; have HF7 := hide (HFA.out.trans hf); clear hf hc)
        go_ret
        rw [HEX2.out]
        exact ⟨rfl, HF7.out, fun e => absurd e hq0⟩
    · have hja : j = a.length := by omega
      have HEX2 : Hid (exsC F.f nm a (W.add t) = ⟨0, Wj⟩) := by
        show exsC F.f nm a (W.add t) = _
        rw [hR.out.2.2.1, hja, List.drop_length, exsC_nil]
      clear hja
      go_wp2
      go_ret
      rw [HEX2.out]
      exact ⟨rfl, hR.out.2.1, fun _ => hR.out.1⟩
theorem cexpr_any (x : Ex) (hx : ExSh x) : CEx x := by
  induction hx with
  | @mk k n t a _ h2 _ ih =>
    intro cb fb wb F v nm s W r w hC hE hS hsb hW
    cases hE with
    | mk _ _ _ sl rs _ hs1 hP1 hl1 he1 =>
    rw [exC_mk]
    by_cases k3 : k = 3
    · cases hc : nm.contains t with
      | true =>
        have e1 : exE F.f nm k t a.length = 0 := by unfold exE; rw [if_pos k3, hc]; rfl
        have e2 : exW k t W = W := by simp [exW, k3]
        rw [e1, e2]
        exact cexpr_name k n t a cb fb wb F v nm s W sl rs w hC hs1 hP1 hl1 he1 hS hsb h2 hW ih k3 hc
      | false =>
        have e1 : exE F.f nm k t a.length = 6 := by unfold exE; rw [if_pos k3, hc]; rfl
        rw [e1]
        exact (cexpr_noname k n t a cb fb wb F v nm s W sl rs w hC hs1 hP1 hl1 he1 hS hsb h2 hW ih k3 hc).mono fun e w' hh => ⟨hh.1, hh.2, fun h0 => by cases h0⟩
    · by_cases k11 : k = 11
      · have e2 : exW k t W = W := by simp [exW, k11]
        cases hc : F.f t with
        | none =>
          have e1 : exE F.f nm k t a.length = 6 := by simp [exE, k11, hc]
          rw [e1]
          exact (cexpr_nofn k n t a cb fb wb F v nm s W sl rs w hC hs1 hP1 hl1 he1 hS hsb h2 hW ih k11 hc).mono fun e w' hh => ⟨hh.1, hh.2, fun h0 => by cases h0⟩
        | some m =>
          by_cases hm : m = a.length
          · have e1 : exE F.f nm k t a.length = 0 := by simp [exE, k11, hc, hm]
            rw [e1, e2]
            exact cexpr_call k n t a cb fb wb F v nm s W sl rs w hC hs1 hP1 hl1 he1 hS hsb h2 hW ih k11 (by rw [hc, hm])
          · have e1 : exE F.f nm k t a.length = 5 := by simp [exE, k11, hc, hm]
            rw [e1]
            exact (cexpr_many k n t a cb fb wb F v nm s W sl rs w hC hs1 hP1 hl1 he1 hS hsb h2 hW ih k11 hc hm).mono fun e w' hh => ⟨hh.1, hh.2, fun h0 => by cases h0⟩
      · have e1 : exE F.f nm k t a.length = 0 := by simp [exE, k3, k11]
        rw [e1]
        by_cases k2 : k = 2
        · have e2 : exW k t W = W.add t := by simp [exW, k2]
          rw [e2]
          exact cexpr_text k n t a cb fb wb F v nm s W sl rs w hC hs1 hP1 hl1 he1 hS hsb h2 hW ih k2
        · have e2 : exW k t W = W := by simp [exW, k2]
          rw [e2]
          exact cexpr_else k n t a cb fb wb F v nm s W sl rs w hC hs1 hP1 hl1 he1 hS hsb h2 hW ih k2 k3 k11
end Go.Proofs.YtkmdamljhagogaaDoor
end
section
/- The document's own look at statements. -/
namespace Go.Proofs.YtkmdamljhagogaaDoor
open Go.RowKit

/-- append([]T{}, l...) for any l, an empty one too, as a step of a region that draws its order. -/
theorem step_append_more {P : Program} (w : World) {ops : Array Oper} {o : Oper} {a : Act} {K : Act → World → Prop} {Q : Exit → Act → World → Prop} {E : Prop} (hgd : o.guard = none) (s x : Operand) (t : TypeId)
    (ho : o.op = .call { callee := .builtin .append, args := #[s, x], argTypes := #[t, t] })
    (base : Nat) (e : TypeId) (i : TypeInfo) (z : Value) (size bytes : Nat) (ht : P.underlying t = some (.slice e)) (hi : P.info? e = some i) (hz : i.zero = some z)
    (hsize : i.size = size) (hby : i.bytes = bytes) (hzs : z.cells.size = size) (hsz : 0 < size)
    (g0 : Nat) (hs : a.eval s = .slice (some ⟨g0, 0, none⟩) 0 0) (hown : w.ownsRow base e size (.slice (some ⟨g0, 0, none⟩) 0 0) 0 [])
    (la : Option Addr) (m c : Nat) (news : List Value) (hx : a.eval x = .slice la m c) (hl : news.length = m * size) (hnews : ∀ j u, news[j]? = some u → ∃ ad, la = some ad ∧ w.cell? (ad.add j) = some u) (h1 : ∀ u ∈ news, u.oneCell' = true)
    (h63 : 0 + m ≤ maxLen) (hbytes : (0 + m) * bytes ≤ 140737488355328) (hbase : base ≤ w.heap.size)
    (h : ∀ g cap w', w'.ownsRow base e size (.slice (some ⟨g, 0, none⟩) (0 + m) cap) (0 + m) ([] ++ news) → w.grownBy w' (Value.slice (some ⟨g0, 0, none⟩) 0 0).ownBlock → K (a.put o.dst (.slice (some ⟨g, 0, none⟩) (0 + m) cap)) w') :
    if Region.wanted o (yielded ops a.tmps) = true then Oper.wp P o a w K Q else E := by
  rcases Nat.eq_zero_or_pos m with h0 | hm
  · subst h0
    have hn : news = [] := List.length_eq_zero_iff.1 (by simpa using hl)
    subst hn
    have hw : Region.wanted o (yielded ops a.tmps) = true := by simp [Region.wanted, hgd]
    rw [if_pos hw]
    have hsrc : Src P i.size t (.slice la 0 c) 0 [] w := by
      cases la with
      | none => exact Src.ofNil w ht c
      | some ad => exact Src.ofSlice w ht ad 0 c [] (by simp) (by simp) (by simp)
    have hr := run_append_nothing w t t o.type e i ht hi (some ⟨g0, 0, none⟩) 0 0 (Nat.le_refl _) (.slice la 0 c) hsrc
    unfold Oper.wp execOp
    simp only [ho, resolve, invoke, builtin, Sem.run_bind, Sem.run_pure, Result.andThen_ok, List.map_toArray, List.map_cons, List.map_nil, hs, hx, hr]
    exact h g0 0 w hown (World.grownBy.refl _ _)
  · have hlen : 0 < news.length := by rw [hl]; exact Nat.mul_pos hm hsz
    obtain ⟨ad, rfl, _⟩ := hnews 0 _ (List.getElem?_eq_getElem hlen)
    exact step_append_lies w hgd s x t ho base e i z size bytes ht hi hz hsize hby hzs hsz _ 0 [] hs hown ad m c news hx hl (fun j u hj => by
      obtain ⟨ad', he, hc⟩ := hnews j u hj
      obtain rfl : ad = ad' := by simpa using he
      exact hc) h1 hm h63 hbytes hbase _ rfl fun g cap w' h2 h3 _ _ => h g cap w' h2 h3
theorem sl_strs {w : World} {la : Option Addr} {c : Nat} {nm : List Bs} (hs : Sl encN 1 w (.slice la nm.length c) nm) : ∀ j u, (nm.flatMap encN)[j]? = some u → ∃ ad, la = some ad ∧ w.cell? (ad.add j) = some u := by
  intro j u hj
  have hl : j < nm.length := by
    have := (List.getElem?_eq_some_iff.1 hj).1
    rwa [flat_length encN 1 encN_len, Nat.mul_one] at this
  obtain ⟨b, off, he, hb, hc⟩ := sl_elem1 (s := ⟨la, nm.length, c⟩) hs (List.getElem?_eq_getElem hl)
  simp only at he
  refine ⟨_, he, ?_⟩
  rw [add_eq, hc]
  have h2 := flat_get encN 1 encN_len nm j nm[j] 0 (.string (bs nm[j])) (List.getElem?_eq_getElem hl) rfl
  rw [Nat.mul_one, Nat.add_zero, hj] at h2
  exact h2.symm
theorem strs_one (nm : List Bs) : ∀ u ∈ nm.flatMap encN, u.oneCell' = true := by
  intro u hu
  obtain ⟨x, _, hx⟩ := List.mem_flatMap.1 hu
  simp only [encN, List.mem_singleton] at hx
  subst hx
  rfl
abbrev so (a : RawS) : Obj := .cells #[.int .i64 a.k, .string (bs a.t), .slice a.a.a a.a.n a.a.c, .slice a.x.a a.x.n a.x.c, .slice a.y.a a.y.n a.y.c] 88
abbrev cw (cb wb : Nat) : Nat → Prop := fun k => k = cb ∨ k = wb
def CSt (l : List St) : Prop := ∀ (cb fb wb : Nat) (F : AMap) (v : Int) (nm : List Bs) (s : Slc) (W : WS) (sl : Slc) (rs : List RawS) (w : World), CI cb fb wb F v W w → Sl encS 5 w sl.v rs → (∀ b, sl.v.ownBlock = some b → ¬ cw cb wb b) → Each (StOk w (fun k => ¬ cw cb wb k)) rs l →
  Sl encN 1 w s.v nm → (∀ b, s.v.ownBlock = some b → ¬ cw cb wb b) → W.n + stsN l ≤ 100000 → 0 ≤ v → v ≤ 8 → nm.length + stsN l ≤ 100000 →
  Calls Tryd.prog 28 #[.pointer (some ⟨cb, 0, none⟩), .slice sl.a sl.n sl.c, .slice s.a s.n s.c] w fun e w' => e = .returned (.int .i64 (stsC F.f l nm v W).e) ∧ Fr (cw cb wb) w w' ∧ ((stsC F.f l nm v W).e = 0 → CI cb fb wb F (stsC F.f l nm v W).v (stsC F.f l nm v W).W w')
theorem stsC_nil (F : Bs → Option Int) (nm : List Bs) (v : Int) (W : WS) : stsC F [] nm v W = ⟨0, nm, v, W⟩ := by rw [stsC]
theorem stsC_cons (F : Bs → Option Int) (s : St) (l : List St) (nm : List Bs) (v : Int) (W : WS) : stsC F (s :: l) nm v W = (stC F s nm v W).or fun r => stsC F l r.nm r.v r.W := by rw [stsC]
theorem cr_bad {r : CR} {g : CR → CR} (h : r.e ≠ 0) : r.or g = r := by simp [CR.or, h]
theorem cr_ok {r : CR} {g : CR → CR} (h : r.e = 0) : r.or g = g r := by simp [CR.or, h]
theorem stC_mk (F : Bs → Option Int) (k : Int) (t : Bs) (a : List Ex) (x y : List St) (nm : List Bs) (v : Int) (W : WS) : stC F (.mk k t a x y) nm v W =
    CR.or ⟨(exsC F nm a W).e, nm, v, (exsC F nm a W).W⟩ fun r =>
    CR.or ⟨stE nm v k t, stN1 nm k t, stV1 v k, r.W⟩ fun r =>
    CR.or (stsC F x r.nm r.v r.W) fun r2 =>
    CR.or (stsC F y r.nm r2.v r2.W) fun r3 => ⟨0, r.nm, r3.v, r3.W⟩ := by rw [stC]
/-- One statement, by what comes of its parts. -/
theorem stC_ex {F : Bs → Option Int} {k : Int} {t : Bs} {a : List Ex} {x y : List St} {nm : List Bs} {v : Int} {W : WS} (h : (exsC F nm a W).e ≠ 0) : (stC F (.mk k t a x y) nm v W).e = (exsC F nm a W).e := by
  rw [stC_mk, cr_bad (by exact h)]
theorem stC_own {F : Bs → Option Int} {k : Int} {t : Bs} {a : List Ex} {x y : List St} {nm : List Bs} {v : Int} {W : WS} (h : (exsC F nm a W).e = 0) (h2 : stE nm v k t ≠ 0) : (stC F (.mk k t a x y) nm v W).e = stE nm v k t := by
  rw [stC_mk, cr_ok (by exact h), cr_bad (by exact h2)]
theorem stC_then {F : Bs → Option Int} {k : Int} {t : Bs} {a : List Ex} {x y : List St} {nm : List Bs} {v : Int} {W W1 : WS} (h : exsC F nm a W = ⟨0, W1⟩) (h2 : stE nm v k t = 0) (h3 : (stsC F x (stN1 nm k t) (stV1 v k) W1).e ≠ 0) : (stC F (.mk k t a x y) nm v W).e = (stsC F x (stN1 nm k t) (stV1 v k) W1).e := by
  rw [stC_mk, h, cr_ok rfl, cr_ok (by exact h2), cr_bad (by exact h3)]
theorem stC_else {F : Bs → Option Int} {k : Int} {t : Bs} {a : List Ex} {x y : List St} {nm : List Bs} {v : Int} {W W1 : WS} (h : exsC F nm a W = ⟨0, W1⟩) (h2 : stE nm v k t = 0) {r : CR} (h3 : stsC F x (stN1 nm k t) (stV1 v k) W1 = r) (h3' : r.e = 0) {r2 : CR} (h4 : stsC F y (stN1 nm k t) r.v r.W = r2) :
    (r2.e ≠ 0 → (stC F (.mk k t a x y) nm v W).e = r2.e) ∧ (r2.e = 0 → stC F (.mk k t a x y) nm v W = ⟨0, stN1 nm k t, r2.v, r2.W⟩) := by
  subst h3
  subst h4
  constructor
  · intro h5
    rw [stC_mk, h, cr_ok rfl, cr_ok (by exact h2), cr_ok (by exact h3'), cr_bad (by exact h5)]
  · intro h5
    rw [stC_mk, h, cr_ok rfl, cr_ok (by exact h2), cr_ok (by exact h3'), cr_ok (by exact h5)]
theorem CI.vars {cb fb wb : Nat} {F : AMap} {v : Int} {W : WS} {w : World} (h : CI cb fb wb F v W w) (v' : Int) : CI cb fb wb F v' W (w.setCell ⟨cb, 1, none⟩ (.int .i64 v')) := by
  have hf : Fr (fun k => k = cb) w (w.setCell ⟨cb, 1, none⟩ (.int .i64 v')) := (Fr.refl (fun k => k = cb) w).setCell (p := ⟨cb, 1, none⟩) (.inl rfl) _
  obtain ⟨A, a1, a2, a3⟩ := h.wm
  have hne := h.ne
  exact ⟨(World.cell?_setCell_other w ⟨cb, 1, none⟩ ⟨cb, 0, none⟩ _ (by simp)).trans h.c0, World.cell?_setCell_same _ _ _ h.c1, (World.cell?_setCell_other w ⟨cb, 1, none⟩ ⟨cb, 2, none⟩ _ (by simp)).trans h.c2, by rw [World.frozen?_setCell]; exact h.f1, Nat.lt_of_lt_of_le h.lt hf.size, h.fm.fr hf (by omega), ⟨A, a1.fr hf (by omega), a2, a3⟩, hne⟩
/-- The block of a statement, made ahead. -/
theorem so_cells {w w' : World} {r : RawS} {S : Nat → Prop} (hf : Fr S (w.alloc (so r)) w') (hs : ¬ S w.heap.size) : B5 w.heap.size (.int .i64 r.k) (.string (bs r.t)) (.slice r.a.a r.a.n r.a.c) (.slice r.x.a r.x.n r.x.c) (.slice r.y.a r.y.n r.y.c) w' := (B5.made w _ _ _ _ _ 88).fr hf hs
theorem own_eq {g k n c : Nat} (h : (Value.slice (some ⟨g, 0, none⟩) n c).ownBlock = some k) : g = k := by simpa [Value.ownBlock] using h
theorem names_sl {w : World} {base g cp : Nat} {nm : List Bs} {t : Bs} (hr : w.ownsRow base 9 1 (.slice (some ⟨g, 0, none⟩) (0 + nm.length + 1) cp) (0 + nm.length + 1) (([] ++ nm.flatMap encN) ++ [.string (bs t)])) :
    Sl encN 1 w (.slice (some ⟨g, 0, none⟩) (nm ++ [t]).length cp) (nm ++ [t]) ∧ base ≤ g := by
  have e : (nm ++ [t]).flatMap encN = ([] ++ nm.flatMap encN) ++ [.string (bs t)] := by simp [encN]
  have h2 : w.ownsRow base 9 1 (.slice (some ⟨g, 0, none⟩) (nm ++ [t]).length cp) (nm ++ [t]).length ((nm ++ [t]).flatMap encN) := by
    rw [e]
    have : (nm ++ [t]).length = 0 + nm.length + 1 := by simp
    rw [this]
    exact hr
  exact ⟨sl_of_owns encN_len h2, (hr.lt g rfl).1⟩
end Go.Proofs.YtkmdamljhagogaaDoor
end
section
/- Package code: statements, one behind the other. -/
set_option maxHeartbeats 0
set_option maxRecDepth 100000
namespace Go.Proofs.YtkmdamljhagogaaDoor
open Go Go.RowKit
mutual
def stKd : St → Prop
  | .mk k _ _ x y => 1 ≤ k ∧ k ≤ 9 ∧ stsKd x ∧ stsKd y
def stsKd : List St → Prop
  | [] => True
  | s :: l => stKd s ∧ stsKd l
end
theorem stsKd_mem : ∀ {l : List St}, stsKd l → ∀ x ∈ l, stKd x
  | y :: l, h, x, hx => by
    rw [stsKd] at h
    rcases List.mem_cons.1 hx with rfl | hx
    · exact h.1
    · exact stsKd_mem h.2 x hx
abbrev kindS : St → Int | .mk k _ _ _ _ => k
abbrev nameS : St → Bs | .mk _ t _ _ _ => t
def stepS (G : Bs → Int) (s : Ks) (st : St) : Ks := { v := (stK G st s.E s.v s.ws s.ins.length).v, hi := max s.hi (highK st), ins := s.ins ++ (stK G st s.E s.v s.ws s.ins.length).ins, E := (stK G st s.E s.v s.ws s.ins.length).E, nm := stN1 s.nm (kindS st) (nameS st), ws := (stK G st s.E s.v s.ws s.ins.length).ws }
def finS (G : Bs → Int) (E0 : Bs → Int) (nm0 : List Bs) (s : Ks) (l : List St) : Ks := { v := (stsK G l s.E s.v s.ws s.ins.length).v, hi := max s.hi (highsK l), ins := s.ins ++ (stsK G l s.E s.v s.ws s.ins.length).ins, E := E0, nm := nm0, ws := (stsK G l s.E s.v s.ws s.ins.length).ws }
theorem finS_nil (G : Bs → Int) (E0 : Bs → Int) (nm0 : List Bs) (s : Ks) : finS G E0 nm0 s [] = { s with E := E0, nm := nm0 } := by
  unfold finS
  rw [stsK_nil, highsK]
  simp
theorem finS_cons (G : Bs → Int) (E0 : Bs → Int) (nm0 : List Bs) (s : Ks) (st : St) (l : List St) : finS G E0 nm0 s (st :: l) = finS G E0 nm0 (stepS G s st) l := by
  unfold finS
  rw [stsK_cons rfl rfl, highsK]
  simp [stepS, Nat.max_assoc]
/-- Names that were there stay what they were. -/
theorem stK_E (G : Bs → Int) (E : Bs → Int) (v : Nat) (ws : List Bs) (o : Nat) (k : Int) (t : Bs) (a : List Ex) (x y : List St) : (stK G (.mk k t a x y) E v ws o).E = if k = 1 then upd E t v else E := by
  by_cases h1 : k = 1
  · subst h1; rw [stK_let rfl]; simp
  rw [if_neg h1]
  by_cases h2 : k = 2
  · subst h2; rw [stK_set rfl]
  by_cases h3 : k = 3
  · subst h3; rw [stK_if rfl rfl rfl]
  by_cases h4 : k = 4
  · subst h4; rw [stK_while rfl rfl]
  · rw [stK_plain rfl h1 h2 h3 h4]
theorem step_names {G : Bs → Int} {s : Ks} {st : St} (hU : stU (fun _ _ => True) st s.nm) : ∀ u ∈ s.nm, u ∈ (stepS G s st).nm ∧ (stepS G s st).E u = s.E u := by
  cases st with
  | mk k t a x y =>
    intro u hu
    rw [stU] at hU
    refine ⟨?_, ?_⟩
    · show u ∈ stN1 s.nm k t
      unfold stN1
      split
      · exact List.mem_append_left _ hu
      · exact hu
    · show (stK G (.mk k t a x y) s.E s.v s.ws s.ins.length).E u = s.E u
      rw [stK_E]
      split
      · rename_i h1
        unfold upd
        rw [if_neg]
        rintro rfl
        exact hU.2.1 h1 hu
      · rfl
def WSt (st : St) : Prop := ∀ (c : Wk) (G : Bs → Int) (T : Nat → Prop) (s : Ks) (r : RawS) (w : World), KI c G T s w → StOk w (ap T w) r st → stU (fun _ _ => True) st s.nm → s.ins.length + 2 * stN st ≤ 200000 → s.ws.length + stN st ≤ 100000 → s.v + stN st ≤ 100000 →
  Calls Tryd.prog 55 #[.pointer (some ⟨c.wb, 0, none⟩), sv r] w fun e w' => e = .returned (.tuple #[]) ∧ KP c G T w (stepS G s st) w'
def WSts (l : List St) : Prop := ∀ (c : Wk) (G : Bs → Int) (T : Nat → Prop) (s : Ks) (sl : Slc) (rs : List RawS) (w : World), KI c G T s w → Sl encS 5 w sl.v rs → (∀ k, sl.v.ownBlock = some k → ap T w k) → Each (StOk w (ap T w)) rs l → stsU (fun _ _ => True) l s.nm → s.ins.length + 2 * stsN l ≤ 200000 → s.ws.length + stsN l ≤ 100000 → s.v + stsN l ≤ 100000 →
  Calls Tryd.prog 43 #[.pointer (some ⟨c.wb, 0, none⟩), .slice sl.a sl.n sl.c] w fun e w' => e = .returned (.tuple #[]) ∧ KP c G T w (finS G s.E s.nm s l) w'
theorem wstmts_any (l : List St) (ih : ∀ x ∈ l, WSt x) : WSts l := by
  intro c G T s sl rs w hK hS hP hE hU hI hW hV
  obtain ⟨hln, hlm⟩ := sl_len hS
  obtain ⟨la, ln, lc⟩ := sl
  simp only at hln
  rw [hE.1] at hln
  subst hln
  have hll : l.length ≤ 9223372036854775807 := by have := hE.1; omega
  have HS := hide hS
  have HE := hide hE
  have HK := hide hK
  have HP := hide hP
  have HU := hide hU
  clear hS hE hK hP hU
  go_enter Tryd.func43, Tryd.ntmps43
  go_wp2
  go_loopw [8, 5] (fun i _ wr => ∃ (j : Nat), j ≤ l.length ∧ i = .int .i64 j ∧ Hid (∃ sj T', KI c G T' sj wr ∧ Fr T w wr ∧ (∀ k, T' k → T k ∨ w.heap.size ≤ k) ∧ finS G s.E s.nm s l = finS G s.E s.nm sj (l.drop j) ∧ (∀ u ∈ s.nm, u ∈ sj.nm ∧ sj.E u = s.E u) ∧ stsU (fun _ _ => True) (l.drop j) sj.nm ∧ sj.ins.length + 2 * stsN (l.drop j) ≤ 200000 ∧ sj.ws.length + stsN (l.drop j) ≤ 100000 ∧ sj.v + stsN (l.drop j) ≤ 100000)) (fun i _ _ => l.length - (intOf i).toNat)
  case atStart => exact ⟨0, Nat.zero_le _, rfl, s, T, HK.out, Fr.refl _ _, fun k hk => .inl hk, rfl, fun u hu => ⟨hu, rfl⟩, HU.out, hI, hW, hV⟩
  case round =>
    obtain ⟨j, hj, rfl, hR⟩ := hrel
    by_cases hjl : j < l.length
    · have hx : l[j]? = some l[j] := List.getElem?_eq_getElem hjl
      have hr : rs[j]? = some (rs[j]'(by rw [HE.out.1]; omega)) := List.getElem?_eq_getElem _
      have hxm : l[j] ∈ l := List.getElem_mem hjl
      have hdr : l.drop j = l[j] :: l.drop (j + 1) := List.drop_eq_getElem_cons hjl
      generalize rs[j]'(by rw [HE.out.1]; omega) = r at hr
      generalize l[j] = x at hx hxm hdr
      have hok := HE.out.2 j r x hr hx
      obtain ⟨g, o, hg, dg, p0, p1, p2, p3, p4⟩ := sl_elem5 (s := ⟨la, l.length, lc⟩) HS.out hr
      simp only at hg
      subst hg
      obtain ⟨sj, T', hKj, hFj, hTj, hEq, hnm, hUj, hIj, hWj, hVj⟩ := hR.out
      have hgT := (HP.out g rfl).1
      rw [← hFj.cell (p := ⟨g, _, none⟩) dg hgT] at p0 p1 p2 p3 p4
      have eg : g < wr.heap.size := Nat.lt_of_lt_of_le dg hFj.size
      rw [hdr, finS_cons] at hEq
      rw [hdr, stsN] at hIj hWj hVj
      have hU1 : stU (fun _ _ => True) x sj.nm ∧ stsU (fun _ _ => True) (l.drop (j + 1)) (stepS G sj x).nm := by
        rw [hdr] at hUj
        cases x with
        | mk k t a x' y' => rw [stsU] at hUj; exact hUj
      have hFA : Fr nothing wr (wr.alloc (so r)) := (Fr.refl _ _).alloc _
      have hok2 : StOk (wr.alloc (so r)) (ap T' (wr.alloc (so r))) r x := st_stays _ _ nothing _ _ _ _ (st_stays _ _ T _ _ _ _ hok hFj (fun k hk => hk.1) (ap_next hFj hTj)) hFA (fun _ _ => id) (fun k hk => ⟨hk.1, Nat.lt_of_lt_of_le hk.2 hFA.size⟩)
      have HIH := hide (ih x hxm c G T' sj r (wr.alloc (so r)) (hKj.new hFA) hok2 hU1.1 (by omega) (by omega) (by omega))
      have HNEXT := hide (fun w2 (h : KP c G T' (wr.alloc (so r)) (stepS G sj x) w2) => h.after ((hFj.trans (hFA.mono (fun _ _ e => e.elim)))) (fun k hk => hTj k hk))
      have HEQ := hide hEq
      have HNM := hide (fun u (hu : u ∈ s.nm) => (show u ∈ (stepS G sj x).nm ∧ (stepS G sj x).E u = s.E u from ⟨(step_names hU1.1 u (hnm u hu).1).1, ((step_names hU1.1 u (hnm u hu).1).2).trans (hnm u hu).2⟩))
      have HU2 := hide hU1.2
      have hle := stK_le G x sj.E sj.v sj.ws sj.ins.length
      have l1 := hle.i
      have l2 := hle.v
      have l3 := hle.w
      clear hR hKj hFj hEq hFA hok hok2 hr hx hTj hU1 hUj hnm hle
      obtain ⟨rk, rt, ra, rx, ry⟩ := r
      simp only at p0 p1 p2 p3 p4
      go_wp2_with (go_at_call 55; refine HIH.out.mono ?_; rintro e w2 ⟨rfl, hk2⟩; have HK2 := hide (HNEXT.out _ hk2); clear hk2)
      go_roundw
      case rel =>
        obtain ⟨T2, k1, k2, k3⟩ := HK2.out
        refine ⟨j + 1, by omega, by go_num, stepS G sj x, T2, k1, k2, k3, HEQ.out, HNM.out, HU2.out, ?_, ?_, ?_⟩
        · show (sj.ins ++ (stK G x sj.E sj.v sj.ws sj.ins.length).ins).length + _ ≤ _
          rw [List.length_append]; omega
        · show (stK G x sj.E sj.v sj.ws sj.ins.length).ws.length + _ ≤ _
          omega
        · show (stK G x sj.E sj.v sj.ws sj.ins.length).v + _ ≤ _
          omega
      case measure => simp [intOf]; omega
    · have hje : j = l.length := by omega
      obtain ⟨sj, T', hKj, hFj, hTj, hEq, hnm, hUj, hIj, hWj, hVj⟩ := hR.out
      rw [hje, List.drop_length, finS_nil] at hEq
      have HEND := hide (show KP c G T w (finS G s.E s.nm s l) wr from ⟨T', hEq ▸ hKj.less hnm, hFj, hTj⟩)
      clear hR hKj hFj hTj hEq hnm hje hUj
      go_wp2
      go_end0
      exact ⟨rfl, HEND.out⟩
end Go.Proofs.YtkmdamljhagogaaDoor
end
