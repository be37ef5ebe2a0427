/- A function. -/
import Derived.Test.YtbplfhjpajkcoabDoorStmt
namespace Go.Proofs.YtbplfhjpajkcoabDoor
open Go.RowKit

abbrev z40 : Array Value := #[.string ⟨#[]⟩, .slice none 0 0, .slice none 0 0]
structure BF (b : Nat) (u0 u1 u2 : Value) (w : World) : Prop where
  c0 : w.cell? ⟨b, 0, none⟩ = some u0
  c1 : w.cell? ⟨b, 1, none⟩ = some u1
  c2 : w.cell? ⟨b, 2, none⟩ = some u2
  f : ∀ j, w.frozen? ⟨b, j, none⟩ = false
  lt : b < w.heap.size
theorem BF.fr {b : Nat} {u0 u1 u2 : Value} {w w1 : World} {S : Nat → Prop} (h : BF b u0 u1 u2 w) (hf : Fr S w w1) (hs : ¬ S b) : BF b u0 u1 u2 w1 :=
  ⟨(hf.cell (p := ⟨b, 0, none⟩) h.lt hs).trans h.c0, (hf.cell (p := ⟨b, 1, none⟩) h.lt hs).trans h.c1, (hf.cell (p := ⟨b, 2, none⟩) h.lt hs).trans h.c2, fun j => (hf.frozen (p := ⟨b, j, none⟩) h.lt hs).trans (h.f j), Nat.lt_of_lt_of_le h.lt hf.size⟩
theorem set_fr (w : World) (b o : Nat) (u : Value) : Fr (fun k => k = b) w (w.setCell ⟨b, o, none⟩ u) := (Fr.refl (fun k => k = b) w).setCell (p := ⟨b, o, none⟩) (.inl rfl) _
theorem BF.put0 {b : Nat} {u0 u1 u2 : Value} {w : World} (h : BF b u0 u1 u2 w) (u : Value) : BF b u u1 u2 (w.setCell ⟨b, 0, none⟩ u) := by
  obtain ⟨r1, r2, r3⟩ := put_at (u := u) h.c0
  exact ⟨r1, (r2 1 (by decide)).trans h.c1, (r2 2 (by decide)).trans h.c2, fun j => (r3 j).trans (h.f j), Nat.lt_of_lt_of_le h.lt (set_fr w b 0 u).size⟩
theorem BF.put1 {b : Nat} {u0 u1 u2 : Value} {w : World} (h : BF b u0 u1 u2 w) (u : Value) : BF b u0 u u2 (w.setCell ⟨b, 1, none⟩ u) := by
  obtain ⟨r1, r2, r3⟩ := put_at (u := u) h.c1
  exact ⟨(r2 0 (by decide)).trans h.c0, r1, (r2 2 (by decide)).trans h.c2, fun j => (r3 j).trans (h.f j), Nat.lt_of_lt_of_le h.lt (set_fr w b 1 u).size⟩
theorem BF.put2 {b : Nat} {u0 u1 u2 : Value} {w : World} (h : BF b u0 u1 u2 w) (u : Value) : BF b u0 u1 u (w.setCell ⟨b, 2, none⟩ u) := by
  obtain ⟨r1, r2, r3⟩ := put_at (u := u) h.c2
  exact ⟨(r2 0 (by decide)).trans h.c0, (r2 1 (by decide)).trans h.c1, r1, fun j => (r3 j).trans (h.f j), Nat.lt_of_lt_of_le h.lt (set_fr w b 2 u).size⟩
abbrev wF (w : World) : World := (w.alloc (.cells z40 40)).alloc (.cells z40 40)
theorem wF_bf (w : World) : BF w.heap.size (.string ⟨#[]⟩) (.slice none 0 0) (.slice none 0 0) (wF w) ∧ BF (w.heap.size + 1) (.string ⟨#[]⟩) (.slice none 0 0) (.slice none 0 0) (wF w) := by
  have o : ∀ j, (wF w).cell? ⟨w.heap.size, j, none⟩ = z40[j]? := fun j => (World.cell?_alloc_past _ _ _ (by simp)).trans (World.cell?_alloc_new _ _ _ _)
  have o' : ∀ j, (wF w).frozen? ⟨w.heap.size, j, none⟩ = false := fun j => (World.frozen?_alloc_past _ _ _ (by simp)).trans (World.frozen?_alloc_new _ _ _ _)
  have n : ∀ j, (wF w).cell? ⟨w.heap.size + 1, j, none⟩ = z40[j]? := fun j => by
    have := World.cell?_alloc_new (w.alloc (.cells z40 40)) z40 40 j
    simp only [World.size_alloc] at this
    exact this
  have n' : ∀ j, (wF w).frozen? ⟨w.heap.size + 1, j, none⟩ = false := fun j => by
    have := World.frozen?_alloc_new (w.alloc (.cells z40 40)) z40 40 j
    simp only [World.size_alloc] at this
    exact this
  exact ⟨⟨o 0, o 1, o 2, o', by simp; omega⟩, ⟨n 0, n 1, n 2, n', by simp⟩⟩
def GPost (T : ByteArray) (mb rb : Nat) (w : World) (res : R Fn) (e : Ending) (w' : World) : Prop :=
  ∃ (r : RawF) (z : Int), e = .returned (.tuple #[gv r, .int .i64 z]) ∧ Fr (fun k => k = rb) w w' ∧
    ((∃ x l p, res = .ok x l ∧ z = 0 ∧ At T p l ∧ Ry T mb rb p w' ∧ FnOk w' (fun k => w.heap.size ≤ k ∧ k < w'.heap.size) r x) ∨ (res = .bad z ∧ z ≠ 0))
abbrev put3 (w : World) (b : Nat) (u0 u1 u2 : Value) : World := ((w.setCell ⟨b, 0, none⟩ u0).setCell ⟨b, 1, none⟩ u1).setCell ⟨b, 2, none⟩ u2
theorem put3_fr (w : World) (b : Nat) (u0 u1 u2 : Value) : Fr (fun k => k = b) w (put3 w b u0 u1 u2) :=
  (((Fr.refl (fun k => k = b) w).setCell (p := ⟨b, 0, none⟩) (.inl rfl) _).setCell (p := ⟨b, 1, none⟩) (.inl rfl) _).setCell (p := ⟨b, 2, none⟩) (.inl rfl) _
theorem g_bad {T : ByteArray} {mb rb : Nat} {w w3 : World} {res : R Fn} (r : RawF) {z : Int} (hres : res = .bad z) (hz : z ≠ 0) (hF : Fr (fun k => k = rb) w w3) (u0 u1 u2 : Value) :
    GPost T mb rb w res (.returned (.tuple #[gv r, .int .i64 z])) (put3 w3 w.heap.size u0 u1 u2) :=
  ⟨r, z, rfl, hF.then (put3_fr ..) (fun j hj e => by omega), .inr ⟨hres, hz⟩⟩
theorem fn_parts (N : Nat) (l : Bs) : fnP MM N l = (bracketP 40 l).go fun _ l => (nameP l).go fun t l => ((bracketP 40 l).go fun _ l => many nameP N l).go fun p l => (many (stmtK MM N 10) N l).go fun b l => .ok ⟨t, p, b⟩ l := by
  simp [fnP, go_assoc]
set_option maxHeartbeats 1000000 in
set_option maxRecDepth 20000 in
theorem fn_F1 (T : ByteArray) (mb rb p : Nat) (w : World) (h : Ry T mb rb p w) {z : Int} (hb : bracketP 40 (T.data.toList.drop p) = .bad z) {res : R Fn} (hres : res = .bad z) :
    Calls Tryd.prog 18 #[.pointer (some ⟨rb, 0, none⟩)] w (GPost T mb rb w res) := by
  have hF0 : Fr (fun k => k = rb) w (wF w) := ((Fr.refl _ w).alloc _).alloc _
  have h0 : Ry T mb rb p (wF w) := h.fr (((Fr.refl _ w).alloc _).alloc _)
  have hrb : rb < w.heap.size := h.rx.rd.lt
  have hmb : mb < w.heap.size := World.ownsMap.lt h.rx.fm
  have h2b := h.two
  have hbig := h.big
  obtain ⟨hA0, hB0⟩ := wF_bf w
  have HA0 := hide hA0
  have HB0 := hide hB0
  have HF0 := hide hF0
  have H0 := hide h0
  have HC := hide (bracket_bad T _ rb p _ h0.rx.rd h.le h.big 40 hb)
  clear h h0 hb hF0 hA0 hB0
  go_enter Tryd.func18, Tryd.ntmps18
  go_wp2_with (go_at_call 31; refine HC.out.mono ?_; rintro e w1 ⟨rfl, hz, hF1⟩; have hA1 := HA0.out.fr hF1 (by show ¬ w.heap.size = rb; omega); have hB1 := HB0.out.fr hF1 (by show ¬ w.heap.size + 1 = rb; omega); have a0 := hA1.c0; have a1 := hA1.c1; have a2 := hA1.c2; have af0 := hA1.f 0; have af1 := hA1.f 1; have af2 := hA1.f 2; have al := hA1.lt; have b0 := hB1.c0; have b1 := hB1.c1; have b2 := hB1.c2; have bf0 := hB1.f 0; have bf1 := hB1.f 1; have bf2 := hB1.f 2; have bl := hB1.lt; have HF := hide hF1; clear hF1 hA1 hB1)
  refine bodyPost_ret (v := .tuple #[gv ⟨[], nilS, nilS⟩, .int .i64 z]) (by simp [results, Tryd.results18, go_sem, a0, a1, a2, bs]) rfl ?_
  exact g_bad _ hres hz (HF0.out.trans HF.out) _ _ _
set_option maxHeartbeats 1000000 in
set_option maxRecDepth 20000 in
theorem fn_F2 (T : ByteArray) (mb rb p : Nat) (w : World) (h : Ry T mb rb p w) {l : Bs} (hb : bracketP 40 (T.data.toList.drop p) = .ok () l) {z : Int} (hnm : nameP l = .bad z) {res : R Fn} (hres : res = .bad z) :
    Calls Tryd.prog 18 #[.pointer (some ⟨rb, 0, none⟩)] w (GPost T mb rb w res) := by
  have hF0 : Fr (fun k => k = rb) w (wF w) := ((Fr.refl _ w).alloc _).alloc _
  have h0 : Ry T mb rb p (wF w) := h.fr (((Fr.refl _ w).alloc _).alloc _)
  have hrb : rb < w.heap.size := h.rx.rd.lt
  have hmb : mb < w.heap.size := World.ownsMap.lt h.rx.fm
  have h2b := h.two
  have hbig := h.big
  obtain ⟨hA0, hB0⟩ := wF_bf w
  have HA0 := hide hA0
  have HB0 := hide hB0
  have HF0 := hide hF0
  have H0 := hide h0
  have HC := hide (bracket_ok T _ rb p _ h0.rx.rd h.le h.big 40 hb)
  clear h h0 hb hF0 hA0 hB0
  go_enter Tryd.func18, Tryd.ntmps18
  go_wp2_with (first
    | (go_at_call 31; refine HC.out.mono ?_; rintro e w1 ⟨p1, rfl, hat, hR1, hF1⟩; have hY1 := H0.out.of hR1 hat.1 hF1; have hN := name_any T mb rb p1 w1 hY1; rw [hat.2, hnm] at hN; have HN := hide hN; have HA1 := hide (HA0.out.fr hF1 (by show ¬ w.heap.size = rb; omega)); have HB1 := hide (HB0.out.fr hF1 (by show ¬ w.heap.size + 1 = rb; omega)); have HF1 := hide (HF0.out.trans hF1); clear hF1 hat hR1 hN hY1)
    | (go_at_call 32; refine HN.out.mono ?_; rintro e w2 ⟨t2, z2, rfl, hF2, hr2⟩; obtain ⟨rfl, hz⟩ : z = z2 ∧ z ≠ 0 := (by rcases hr2 with ⟨_, _, h, _⟩ | ⟨h, hz⟩; (cases h); (cases h; exact ⟨rfl, hz⟩)); have hA2 := HA1.out.fr hF2 (by show ¬ w.heap.size = rb; omega); have hB2 := HB1.out.fr hF2 (by show ¬ w.heap.size + 1 = rb; omega); have a0 := hA2.c0; have a1 := hA2.c1; have a2 := hA2.c2; have af0 := hA2.f 0; have af1 := hA2.f 1; have af2 := hA2.f 2; have al := hA2.lt; have b0 := hB2.c0; have b1 := hB2.c1; have b2 := hB2.c2; have bf0 := hB2.f 0; have bf1 := hB2.f 1; have bf2 := hB2.f 2; have bl := hB2.lt; have HF2 := hide (HF1.out.trans hF2); clear hF2 hr2 hA2 hB2))
  refine bodyPost_ret (v := .tuple #[gv ⟨t2, nilS, nilS⟩, .int .i64 z]) (by simp [results, Tryd.results18, go_sem, a0, a1, a2]) rfl ?_
  exact g_bad _ hres hz (HF2.out.setCell (p := ⟨w.heap.size + 1, 0, none⟩) (.inr (by show w.heap.size ≤ w.heap.size + 1; omega)) _) _ _ _
theorem each_nm {w : World} {P : Nat → Prop} {rs xs : List Bs} (h : Each (NmOk w P) rs xs) : rs = xs := by
  apply List.ext_getElem?
  intro i
  by_cases hi : i < xs.length
  · have h1 : xs[i]? = some xs[i] := List.getElem?_eq_getElem hi
    have h2 : rs[i]? = some (rs[i]'(by rw [h.1]; exact hi)) := List.getElem?_eq_getElem _
    rw [h1, h2]
    exact congrArg _ (h.2 i _ _ h2 h1)
  · rw [List.getElem?_eq_none (by rw [h.1]; omega), List.getElem?_eq_none (by omega)]
theorem g_ok {T : ByteArray} {mb rb : Nat} {w w3 w3' w4 w4' : World} {res : R Fn} {tt : Bs} {ps : List Bs} {body : List St} {l : Bs} {p : Nat} {s3 s4 : Slc} {w2' : World} (hres : res = .ok ⟨tt, ps, body⟩ l) (hF2 : Fr (fun k => k = rb) w w2') (hrb : rb < w.heap.size) (hmb : mb < w.heap.size)
    (hF3 : Fr (fun k => k = rb) w2' w3) (h3' : Fr (fun k => k = w.heap.size + 1) w3 w3') (hF4 : Fr (fun k => k = rb) w3' w4) (h4' : Fr (fun k => k = w.heap.size + 1) w4 w4') (hb2 : w.heap.size + 1 < w2'.heap.size)
    (k1 : Sl encN 1 w3 s3.v ps) (k2 : ∀ b, s3.v.ownBlock = some b → w2'.heap.size ≤ b ∧ b < w3.heap.size) (hL : LsOk w3' w4 s4 body) (hat : At T p l) (hY : Ry T mb rb p w4) (u0 u1 u2 : Value) :
    GPost T mb rb w res (.returned (.tuple #[gv ⟨tt, s3, s4⟩, .int .i64 0])) (put3 w4' w.heap.size u0 u1 u2) := by
  have h2 := hY.two
  have hf9 := put3_fr w4' w.heap.size u0 u1 u2
  have z2 := hF2.size
  have z3 := hF3.size
  have z3' := h3'.size
  have z4 := hF4.size
  have z4' := h4'.size
  have z9 := hf9.size
  obtain ⟨rs, l1, l2, l3, l4⟩ := ((hL.move h4' (fun k e => by omega)).move hf9 (fun k e => by omega)).since (w0 := w) (by omega)
  refine ⟨_, 0, rfl, ((((hF2.trans hF3).then h3' (fun j hj e => by omega)).trans hF4).then h4' (fun j hj e => by omega)).then hf9 (fun j hj e => by omega), .inl ⟨_, l, p, hres, rfl, hat, (hY.frS h4' (by omega) (by omega) (by omega) (by omega)).frS hf9 (by omega) (by omega) (by omega) (by omega), rfl, ?_, fun b hb => ?_, ⟨rs, l1, l3, l4⟩, l2⟩⟩
  · exact (((k1.keep h3' (P := fun k => w2'.heap.size ≤ k ∧ k < w3.heap.size) k2 (fun k hk e => by omega)).keep hF4 (P := fun k => w2'.heap.size ≤ k ∧ k < w3.heap.size) k2 (fun k hk e => by omega)).keep h4' (P := fun k => w2'.heap.size ≤ k ∧ k < w3.heap.size) k2 (fun k hk e => by omega)).keep hf9 (P := fun k => w2'.heap.size ≤ k ∧ k < w3.heap.size) k2 (fun k hk e => by omega)
  · have := k2 b hb
    exact ⟨by omega, by omega⟩
set_option maxHeartbeats 1000000 in
set_option maxRecDepth 20000 in
theorem fn_F3 (T : ByteArray) (mb rb p N : Nat) (w : World) (h : Ry T mb rb p w) (hN : T.size < N) {l : Bs} (hb : bracketP 40 (T.data.toList.drop p) = .ok () l) {tt l2 : Bs} (hnm : nameP l = .ok tt l2) {z : Int} (hpr : ((bracketP 40 l2).go fun _ l => many nameP N l) = .bad z) {res : R Fn} (hres : res = .bad z) :
    Calls Tryd.prog 18 #[.pointer (some ⟨rb, 0, none⟩)] w (GPost T mb rb w res) := by
  have hF0 : Fr (fun k => k = rb) w (wF w) := ((Fr.refl _ w).alloc _).alloc _
  have h0 : Ry T mb rb p (wF w) := h.fr (((Fr.refl _ w).alloc _).alloc _)
  have hrb : rb < w.heap.size := h.rx.rd.lt
  have hmb : mb < w.heap.size := World.ownsMap.lt h.rx.fm
  have h2b := h.two
  have hbig := h.big
  obtain ⟨hA0, hB0⟩ := wF_bf w
  have HA0 := hide hA0
  have HB0 := hide hB0
  have HF0 := hide hF0
  have H0 := hide h0
  have HC := hide (bracket_ok T _ rb p _ h0.rx.rd h.le h.big 40 hb)
  clear h h0 hb hF0 hA0 hB0
  go_enter Tryd.func18, Tryd.ntmps18
  go_wp2_with (first
    | (go_at_call 31; refine HC.out.mono ?_; rintro e w1 ⟨p1, rfl, hat, hR1, hF1⟩; have hY1 := H0.out.of hR1 hat.1 hF1; have hN := name_any T mb rb p1 w1 hY1; rw [hat.2, hnm] at hN; have HN := hide hN; have HA1 := hide (HA0.out.fr hF1 (by show ¬ w.heap.size = rb; omega)); have HB1 := hide (HB0.out.fr hF1 (by show ¬ w.heap.size + 1 = rb; omega)); have HF1 := hide (HF0.out.trans hF1); clear hF1 hat hR1 hN hY1)
    | (go_at_call 32; refine HN.out.mono ?_; rintro e w2 ⟨t2, z2, rfl, hF2, hr2⟩; obtain ⟨p2, rfl, rfl, hat2, hY2⟩ : ∃ p2, tt = t2 ∧ z2 = 0 ∧ At T p2 l2 ∧ Ry T mb rb p2 w2 := (by rcases hr2 with ⟨_, p2, h, h2, h3, h4⟩ | ⟨h, hz⟩; (cases h; exact ⟨p2, rfl, h2, h3, h4⟩); (cases h)); have hA2 := HA1.out.fr hF2 (by show ¬ w.heap.size = rb; omega); have hB2 := HB1.out.fr hF2 (by show ¬ w.heap.size + 1 = rb; omega); have e1 := hB2.c0; have e2 := hB2.f 0; have e3 := hB2.lt; have hf2 := set_fr w2 (w.heap.size + 1) 0 (.string (bs tt)); have HY2 := hide (hY2.frS hf2 (by omega) (by omega) (by omega) (by omega)); have hP := params_any T mb rb p2 N _ HY2.out hN; rw [hat2.2, hpr] at hP; have HP := hide hP; have HA2 := hide (hA2.fr hf2 (by omega)); have HB2 := hide (hB2.put0 (.string (bs tt))); have HF2 : Hid (Fr (fun k => k = rb) w (w2.setCell ⟨w.heap.size + 1, 0, none⟩ (.string (bs tt)))) := (HF1.out.trans hF2).setCell (p := ⟨w.heap.size + 1, 0, none⟩) (.inr (by show w.heap.size ≤ w.heap.size + 1; omega)) _; clear hF2 hr2 hA2 hB2 hP hat2 hY2 hf2)
    | (go_at_call 33; refine HP.out.mono ?_; rintro e w3 ⟨s3, z3, rfl, hF3, hr3⟩; obtain ⟨rfl, hz⟩ : z = z3 ∧ z ≠ 0 := (by rcases hr3 with ⟨_, _, _, h, _⟩ | ⟨h, hz⟩; (cases h); (cases h; exact ⟨rfl, hz⟩)); have hA3 := HA2.out.fr hF3 (by show ¬ w.heap.size = rb; omega); have hB3 := HB2.out.fr hF3 (by show ¬ w.heap.size + 1 = rb; omega); have a0 := hA3.c0; have a1 := hA3.c1; have a2 := hA3.c2; have af0 := hA3.f 0; have af1 := hA3.f 1; have af2 := hA3.f 2; have al := hA3.lt; have b0 := hB3.c0; have b1 := hB3.c1; have b2 := hB3.c2; have bf0 := hB3.f 0; have bf1 := hB3.f 1; have bf2 := hB3.f 2; have bl := hB3.lt; have HF3 := hide (HF2.out.trans hF3); clear hF3 hr3 hA3 hB3))
  refine bodyPost_ret (v := .tuple #[gv ⟨tt, s3, nilS⟩, .int .i64 z]) (by simp [results, Tryd.results18, go_sem, a0, a1, a2]) rfl ?_
  exact g_bad _ hres hz (HF3.out.setCell (p := ⟨w.heap.size + 1, 1, none⟩) (.inr (by show w.heap.size ≤ w.heap.size + 1; omega)) _) _ _ _
set_option maxHeartbeats 1000000 in
set_option maxRecDepth 20000 in
theorem fn_F4 (T : ByteArray) (mb rb p N : Nat) (w : World) (h : Ry T mb rb p w) (hN : T.size < N) {l : Bs} (hb : bracketP 40 (T.data.toList.drop p) = .ok () l) {tt l2 : Bs} (hnm : nameP l = .ok tt l2) {ps : List Bs} {l3 : Bs} (hpr : ((bracketP 40 l2).go fun _ l => many nameP N l) = .ok ps l3) {res : R Fn} (hres : res = (many (stmtK MM N 10) N l3).go fun b l => .ok ⟨tt, ps, b⟩ l) :
    Calls Tryd.prog 18 #[.pointer (some ⟨rb, 0, none⟩)] w (GPost T mb rb w res) := by
  have hF0 : Fr (fun k => k = rb) w (wF w) := ((Fr.refl _ w).alloc _).alloc _
  have h0 : Ry T mb rb p (wF w) := h.fr (((Fr.refl _ w).alloc _).alloc _)
  have hrb : rb < w.heap.size := h.rx.rd.lt
  have hmb : mb < w.heap.size := World.ownsMap.lt h.rx.fm
  have h2b := h.two
  have hbig := h.big
  obtain ⟨hA0, hB0⟩ := wF_bf w
  have HA0 := hide hA0
  have HB0 := hide hB0
  have HF0 := hide hF0
  have H0 := hide h0
  have HC := hide (bracket_ok T _ rb p _ h0.rx.rd h.le h.big 40 hb)
  clear h h0 hb hF0 hA0 hB0
  have HRES := hide hres
  clear hres
  go_enter Tryd.func18, Tryd.ntmps18
  go_wp2_with (first
    | (go_at_call 31; refine HC.out.mono ?_; rintro e w1 ⟨p1, rfl, hat, hR1, hF1⟩; have hY1 := H0.out.of hR1 hat.1 hF1; have hN := name_any T mb rb p1 w1 hY1; rw [hat.2, hnm] at hN; have HN := hide hN; have HA1 := hide (HA0.out.fr hF1 (by show ¬ w.heap.size = rb; omega)); have HB1 := hide (HB0.out.fr hF1 (by show ¬ w.heap.size + 1 = rb; omega)); have HF1 := hide (HF0.out.trans hF1); clear hF1 hat hR1 hN hY1)
    | (go_at_call 32; refine HN.out.mono ?_; rintro e w2 ⟨t2, z2, rfl, hF2, hr2⟩; obtain ⟨p2, rfl, rfl, hat2, hY2⟩ : ∃ p2, tt = t2 ∧ z2 = 0 ∧ At T p2 l2 ∧ Ry T mb rb p2 w2 := (by rcases hr2 with ⟨_, p2, h, h2, h3, h4⟩ | ⟨h, hz⟩; (cases h; exact ⟨p2, rfl, h2, h3, h4⟩); (cases h)); have hA2 := HA1.out.fr hF2 (by show ¬ w.heap.size = rb; omega); have hB2 := HB1.out.fr hF2 (by show ¬ w.heap.size + 1 = rb; omega); have e1 := hB2.c0; have e2 := hB2.f 0; have e3 := hB2.lt; have hf2 := set_fr w2 (w.heap.size + 1) 0 (.string (bs tt)); have HY2 := hide (hY2.frS hf2 (by omega) (by omega) (by omega) (by omega)); have hP := params_any T mb rb p2 N _ HY2.out hN; rw [hat2.2, hpr] at hP; have HP := hide hP; have HA2 := hide (hA2.fr hf2 (by omega)); have HB2 := hide (hB2.put0 (.string (bs tt))); have HF2 : Hid (Fr (fun k => k = rb) w (w2.setCell ⟨w.heap.size + 1, 0, none⟩ (.string (bs tt)))) := (HF1.out.trans hF2).setCell (p := ⟨w.heap.size + 1, 0, none⟩) (.inr (by show w.heap.size ≤ w.heap.size + 1; omega)) _; clear hF2 hr2 hA2 hB2 hP hat2 hY2 hf2)
    | (go_at_call 33; refine HP.out.mono ?_; rintro e w3 ⟨s3, z3, rfl, hF3, hr3⟩; obtain ⟨p3, rfl, hat3, hY3, hS3, hO3⟩ : ∃ p3, z3 = 0 ∧ At T p3 l3 ∧ Ry T mb rb p3 w3 ∧ Sl encN 1 w3 s3.v ps ∧ (∀ b, s3.v.ownBlock = some b → (w2.setCell ⟨w.heap.size + 1, 0, none⟩ (.string (bs tt))).heap.size ≤ b ∧ b < w3.heap.size) := (by rcases hr3 with ⟨_, _, p3, h, h2, h3, h4, rs, h5, h6, h7⟩ | ⟨h, hz⟩; (cases h; exact ⟨p3, h2, h3, h4, each_nm h7 ▸ h5, h6⟩); (cases h)); have hA3 := HA2.out.fr hF3 (by show ¬ w.heap.size = rb; omega); have hB3 := HB2.out.fr hF3 (by show ¬ w.heap.size + 1 = rb; omega); have g1 := hB3.c1; have g2 := hB3.f 1; have g3 := hB3.lt; have hf3 := set_fr w3 (w.heap.size + 1) 1 (.slice s3.a s3.n s3.c); have HY3 := hide (hY3.frS hf3 (by omega) (by omega) (by omega) (by omega)); have hS := stmts_any T mb rb p3 N _ 0 HY3.out hN (stmtK MM N 10) (stmt_less MM N 10) (fun p w h => stmt_any T mb rb N hN 10 0 p w (by omega) (by omega) h); rw [hat3.2] at hS; have HS := hide hS; have HA3 := hide (hA3.fr hf3 (by omega)); have HB3 := hide (hB3.put1 (.slice s3.a s3.n s3.c)); have HF3 := hide hF3; have Hf3 := hide hf3; have HS3 := hide hS3; have HO3 := hide hO3; clear hF3 hr3 hA3 hB3 hS hat3 hY3 hf3 hS3 hO3)
    | (go_at_call 34; refine HS.out.mono ?_; rintro e w4 ⟨s4, z4, rfl, hF4, hr4⟩; have hA4 := HA3.out.fr hF4 (by show ¬ w.heap.size = rb; omega); have hB4 := HB3.out.fr hF4 (by show ¬ w.heap.size + 1 = rb; omega); have a0 := hA4.c0; have a1 := hA4.c1; have a2 := hA4.c2; have af0 := hA4.f 0; have af1 := hA4.f 1; have af2 := hA4.f 2; have al := hA4.lt; have b0 := hB4.c0; have b1 := hB4.c1; have b2 := hB4.c2; have bf0 := hB4.f 0; have bf1 := hB4.f 1; have bf2 := hB4.f 2; have bl := hB4.lt; have HF4 := hide hF4; have HR4 := hide hr4; clear hF4 hr4 hA4 hB4))
  refine bodyPost_ret (v := .tuple #[gv ⟨tt, s3, s4⟩, .int .i64 z4]) (by simp [results, Tryd.results18, go_sem, a0, a1, a2]) rfl ?_
  have hf4 := set_fr w4 (w.heap.size + 1) 2 (.slice s4.a s4.n s4.c)
  rcases HR4.out with ⟨xs, l4, p4, e1, e2, e3, e4, e5⟩ | ⟨e1, e2⟩
  · subst e2
    exact g_ok (by rw [HRES.out, e1]; rfl) HF2.out hrb hmb HF3.out Hf3.out HF4.out hf4 HB2.out.lt HS3.out HO3.out e5 e3 e4 _ _ _
  · exact g_bad _ (by rw [HRES.out, e1]; rfl) e2 ((((HF2.out.trans HF3.out).then Hf3.out (fun j hj e => by omega)).trans HF4.out).then hf4 (fun j hj e => by omega)) _ _ _
theorem function_any (T : ByteArray) (mb rb p N : Nat) (w : World) (h : Ry T mb rb p w) (hN : T.size < N) :
    Calls Tryd.prog 18 #[.pointer (some ⟨rb, 0, none⟩)] w (GPost T mb rb w (fnP MM N (T.data.toList.drop p))) := by
  have e := fn_parts N (T.data.toList.drop p)
  cases hb : bracketP 40 (T.data.toList.drop p) with
  | bad z => exact fn_F1 T mb rb p w h hb (by rw [e, hb]; rfl)
  | ok u l =>
    cases hnm : nameP l with
    | bad z => exact fn_F2 T mb rb p w h hb hnm (by rw [e, hb]; simp [R.go, hnm])
    | ok tt l2 =>
      have e2 : fnP MM N (T.data.toList.drop p) = ((bracketP 40 l2).go fun _ l => many nameP N l).go fun p l => (many (stmtK MM N 10) N l).go fun b l => .ok ⟨tt, p, b⟩ l := by
        rw [e, hb]
        show (nameP l).go _ = _
        rw [hnm]
        rfl
      cases hpr : (bracketP 40 l2).go fun _ l => many nameP N l with
      | bad z => exact fn_F3 T mb rb p N w h hN hb hnm hpr (by rw [e2, hpr]; rfl)
      | ok ps l3 => exact fn_F4 T mb rb p N w h hN hb hnm hpr (by rw [e2, hpr]; rfl)
end Go.Proofs.YtbplfhjpajkcoabDoor
