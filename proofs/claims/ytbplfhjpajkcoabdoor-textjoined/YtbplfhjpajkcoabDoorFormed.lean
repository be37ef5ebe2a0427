/- An expression of others. -/
import Derived.Test.YtbplfhjpajkcoabDoorClosE
namespace Go.Proofs.YtbplfhjpajkcoabDoor
open Go.RowKit

theorem form_x (v : Bs) : (formOf v).x ≤ 10 := by
  unfold formOf
  cases h : formsL.find? (fun p => p.1 == v) with
  | none => decide
  | some p =>
    have hm := List.mem_of_find?_eq_some h
    have : ∀ p ∈ formsL, p.2.x ≤ 10 := by decide
    exact this p hm
abbrev wA (w : World) (rb : Nat) (deep : Int) : World := ((w.alloc (.cells #[.pointer (some ⟨rb, 0, none⟩)] 44)).alloc (.cells #[.int .i64 deep] 3)).alloc (.cells z90 90)
theorem wA_size (w : World) (rb : Nat) (deep : Int) : (wA w rb deep).heap.size = w.heap.size + 3 := by simp
theorem wA_fr (w : World) (rb : Nat) (deep : Int) (S : Nat → Prop) : Fr S w (wA w rb deep) := (((Fr.refl _ w).alloc _).alloc _).alloc _
/-- What lies ahead of the word. -/
structure Bx (w : World) (rb : Nat) (deep : Int) (w1 : World) : Prop where
  r : w1.cell? ⟨w.heap.size, 0, none⟩ = some (.pointer (some ⟨rb, 0, none⟩))
  d : w1.cell? ⟨w.heap.size + 1, 0, none⟩ = some (.int .i64 deep)
  c : ∀ j, w1.cell? ⟨w.heap.size + 2, j, none⟩ = z90[j]?
  f : ∀ j, w1.frozen? ⟨w.heap.size + 2, j, none⟩ = false
  lt : w.heap.size + 3 ≤ w1.heap.size
theorem bx_made (w : World) (rb : Nat) (deep : Int) : Bx w rb deep (wA w rb deep) where
  r := by
    rw [World.cell?_alloc_past _ _ _ (by simp; omega), World.cell?_alloc_past _ _ _ (by simp), World.cell?_alloc_new]; rfl
  d := by
    rw [World.cell?_alloc_past _ _ _ (by simp)]
    have := World.cell?_alloc_new (w.alloc (.cells #[.pointer (some ⟨rb, 0, none⟩)] 44)) #[Value.int .i64 deep] 3 0
    simp only [World.size_alloc] at this
    rw [this]; rfl
  c := fun j => by
    have := World.cell?_alloc_new ((w.alloc (.cells #[.pointer (some ⟨rb, 0, none⟩)] 44)).alloc (.cells #[.int .i64 deep] 3)) z90 90 j
    simp only [World.size_alloc] at this
    exact this
  f := fun j => by
    have := World.frozen?_alloc_new ((w.alloc (.cells #[.pointer (some ⟨rb, 0, none⟩)] 44)).alloc (.cells #[.int .i64 deep] 3)) z90 90 j
    simp only [World.size_alloc] at this
    exact this
  lt := by simp
theorem Bx.fr {w : World} {rb : Nat} {deep : Int} {w1 w2 : World} {S : Nat → Prop} (h : Bx w rb deep w1) (hf : Fr S w1 w2) (hs : ∀ k, w.heap.size ≤ k → k < w.heap.size + 3 → ¬ S k) : Bx w rb deep w2 := by
  have hl := h.lt
  refine ⟨?_, ?_, fun j => ?_, fun j => ?_, Nat.le_trans h.lt hf.size⟩
  · exact (hf.cell (p := ⟨w.heap.size, 0, none⟩) (by show w.heap.size < _; omega) (hs _ (by show w.heap.size ≤ w.heap.size; omega) (by show w.heap.size < _; omega))).trans h.r
  · exact (hf.cell (p := ⟨w.heap.size + 1, 0, none⟩) (by show w.heap.size + 1 < _; omega) (hs _ (by show w.heap.size ≤ w.heap.size + 1; omega) (by show w.heap.size + 1 < _; omega))).trans h.d
  · exact (hf.cell (p := ⟨w.heap.size + 2, j, none⟩) (by show w.heap.size + 2 < _; omega) (hs _ (by show w.heap.size ≤ w.heap.size + 2; omega) (by show w.heap.size + 2 < _; omega))).trans (h.c j)
  · exact (hf.frozen (p := ⟨w.heap.size + 2, j, none⟩) (by show w.heap.size + 2 < _; omega) (hs _ (by show w.heap.size ≤ w.heap.size + 2; omega) (by show w.heap.size + 2 < _; omega))).trans (h.f j)
abbrev fo (f : Form) : Obj := .cells #[.int .i64 f.s, .int .i64 f.x, .int .i64 f.o, .int .i64 f.n] 80
abbrev xo (kk nn : Int) (tt : ByteArray) : Obj := .cells #[.int .i64 kk, .int .i64 nn, .string tt, .slice none 0 0] 90
/-- The parts, gathered from nothing on. -/
theorem parts_any (T : ByteArray) (mb rb : Nat) (w w1 : World) (deep kk nn : Int) (tt : Bs) (F : Obj) (one : Bs → R Ex) (n p : Nat)
    (hone : ∀ p w, Ry T mb rb p w → Calls Tryd.prog 55 #[.pointer (some ⟨rb, 0, none⟩), .int .i64 (deep + 1)] w (EPost T mb rb w (one (T.data.toList.drop p))))
    (hless : Less one) (hd0 : 0 ≤ deep) (hd1 : deep ≤ 100) (hB : Bx w rb deep w1) (hY : Ry T mb rb p w1) (hrb : rb < w.heap.size) (hmb : mb < w.heap.size) (hn : T.size < n) :
    Calls Tryd.prog 48 #[.pointer (some ⟨rb, 0, none⟩), .func (.func 68) #[] #[.pointer (some ⟨w.heap.size, 0, none⟩), .pointer (some ⟨w.heap.size + 1, 0, none⟩), .pointer (some ⟨w1.heap.size + 1, 0, none⟩)]] ((w1.alloc F).alloc (xo kk nn (bs tt)))
      (UPost T (fun w' => Fr (fun k => k = rb ∨ k = w1.heap.size + 1) ((w1.alloc F).alloc (xo kk nn (bs tt))) w') (JE T mb rb ((w1.alloc F).alloc (xo kk nn (bs tt))) (w1.heap.size + 1) kk nn tt) [] (many one n (T.data.toList.drop p))) := by
  have hl := hB.lt
  have h2 := hY.two
  have hF : Fr nothing w1 ((w1.alloc F).alloc (xo kk nn (bs tt))) := ((Fr.refl _ w1).alloc _).alloc _
  have hB2 := hB.fr hF (fun _ _ _ => id)
  have hsz : ((w1.alloc F).alloc (xo kk nn (bs tt))).heap.size = w1.heap.size + 2 := by simp
  have hnew : ∀ j, ((w1.alloc F).alloc (xo kk nn (bs tt))).cell? ⟨w1.heap.size + 1, j, none⟩ = #[Value.int .i64 kk, .int .i64 nn, .string (bs tt), .slice none 0 0][j]? := fun j => by
    have := World.cell?_alloc_new (w1.alloc F) #[Value.int .i64 kk, .int .i64 nn, .string (bs tt), .slice none 0 0] 90 j
    simp only [World.size_alloc] at this
    exact this
  have hfz : ((w1.alloc F).alloc (xo kk nn (bs tt))).frozen? ⟨w1.heap.size + 1, 3, none⟩ = false := by
    have := World.frozen?_alloc_new (w1.alloc F) #[Value.int .i64 kk, .int .i64 nn, .string (bs tt), .slice none 0 0] 90 3
    simp only [World.size_alloc] at this
    exact this
  generalize (w1.alloc F).alloc (xo kk nn (bs tt)) = W at *
  have hbx : w1.heap.size + 1 < W.heap.size := by omega
  refine upto_68 T mb rb _ _ _ one (JE T mb rb W (w1.heap.size + 1) kk nn tt) _ hless (fun _ _ _ h => h.ry) (fun _ _ _ h => h.fr) ?_ (fun a b h k => h.trans (k.mono (fun _ _ e => .inl e))) ?_ n [] p W ?_ (by omega)
  · intro acc q q' a b h hq hY' hF'
    have hs := h.fr.size
    have hrw : ∀ k, (fun k => k = rb) k → k < W.heap.size := fun k e => by subst e; omega
    have hb : w1.heap.size + 1 < a.heap.size := by omega
    have hne : ¬ w1.heap.size + 1 = rb := by omega
    obtain ⟨v, hv, hrow⟩ := h.row
    exact ⟨hY', h.fr.trans (hF'.mono (fun _ _ e => .inl e)), (hF'.cell (p := ⟨w1.heap.size + 1, 0, none⟩) hb hne).trans h.x0, (hF'.cell (p := ⟨w1.heap.size + 1, 1, none⟩) hb hne).trans h.x1, (hF'.cell (p := ⟨w1.heap.size + 1, 2, none⟩) hb hne).trans h.x2,
      (hF'.frozen (p := ⟨w1.heap.size + 1, 3, none⟩) hb hne).trans h.fz, Nat.le_trans h.le hq, v, (hF'.cell (p := ⟨w1.heap.size + 1, 3, none⟩) hb hne).trans hv, hrow.fr ex_stays hF' hrw⟩
  · intro acc q a h
    exact clE T mb rb W w.heap.size (w.heap.size + 1) (w1.heap.size + 1) deep kk nn tt one acc q a hone hless hd0 hd1 hB2.r hB2.d hbx ⟨by omega, by omega, by omega, by omega, by omega, by omega, by omega⟩ (by omega) (by omega) h
  · exact ⟨hY.fr hF, Fr.refl _ _, hnew 0, hnew 1, hnew 2, hfz, Nat.zero_le _, _, hnew 3, Row.nil _ (Nat.le_refl _)⟩
theorem Bx.cells {w : World} {rb : Nat} {deep : Int} {w1 : World} (h : Bx w rb deep w1) : w1.cell? ⟨w.heap.size + 1 + 1, 0, none⟩ = some (.int .i64 0) ∧ w1.cell? ⟨w.heap.size + 1 + 1, 1, none⟩ = some (.int .i64 0) ∧ w1.cell? ⟨w.heap.size + 1 + 1, 2, none⟩ = some (.string ⟨#[]⟩) ∧ w1.cell? ⟨w.heap.size + 1 + 1, 3, none⟩ = some (.slice none 0 0) ∧
    w1.frozen? ⟨w.heap.size + 1 + 1, 0, none⟩ = false ∧ w1.frozen? ⟨w.heap.size + 1 + 1, 1, none⟩ = false ∧ w1.frozen? ⟨w.heap.size + 1 + 1, 2, none⟩ = false ∧ w1.frozen? ⟨w.heap.size + 1 + 1, 3, none⟩ = false ∧ w.heap.size + 1 + 1 < w1.heap.size :=
  ⟨h.c 0, h.c 1, h.c 2, h.c 3, h.f 0, h.f 1, h.f 2, h.f 3, by have := h.lt; omega⟩
theorem ret_bad {T : ByteArray} {mb rb : Nat} {w w1 : World} {deep : Int} {z : Int} {res : R Ex} (hres : res = .bad z) (hz : z ≠ 0) (hF : Fr (fun k => k = rb) w w1) (u0 u1 u2 u3 : Value) (r : RawE) :
    EPost T mb rb w res (.returned (.tuple #[ev r, .int .i64 z])) ((((w1.setCell ⟨w.heap.size + 1 + 1, 0, none⟩ u0).setCell ⟨w.heap.size + 1 + 1, 1, none⟩ u1).setCell ⟨w.heap.size + 1 + 1, 2, none⟩ u2).setCell ⟨w.heap.size + 1 + 1, 3, none⟩ u3) :=
  have _ := deep
  ⟨r, z, rfl, hF.put4 (by omega) _ _ _ _, .inr ⟨hres, hz⟩⟩
set_option maxHeartbeats 400000 in
set_option maxRecDepth 20000 in
theorem formed_word (T : ByteArray) (mb rb p : Nat) (w : World) (deep : Int) (h : Ry T mb rb p w) {z : Int} (hw : wordP (T.data.toList.drop p) = .bad z) {res : R Ex} (hres : res = .bad z) :
    Calls Tryd.prog 62 #[.pointer (some ⟨rb, 0, none⟩), .int .i64 deep] w (EPost T mb rb w res) := by
  have h0 : Ry T mb rb p (wA w rb deep) := h.fr (wA_fr _ _ _ _)
  have hrb : rb < w.heap.size := h.rx.rd.lt
  have HC := hide (word_bad T _ rb p _ h0.rx.rd h.le h.big hw)
  clear h h0 hw
  go_enter Tryd.func62, Tryd.ntmps62
  go_wp2_with (go_at_call 47; refine HC.out.mono ?_; rintro e w1 ⟨rfl, hz, hF1⟩; have hB1 := (bx_made w rb deep).fr hF1 (fun k k1 _ => by show ¬ k = rb; omega); obtain ⟨c0, c1, c2, c3, f0, f1, f2, f3, hlt⟩ := hB1.cells; have HF := hide hF1; clear hF1 hB1)
  refine bodyPost_ret (v := .tuple #[ev ⟨0, 0, [], nilS⟩, .int .i64 z]) (by simp [results, Tryd.results62, go_sem, c0, c1, c2, c3, bs]) rfl ?_
  exact ret_bad (deep := deep) hres hz ((wA_fr w rb deep _).trans HF.out) _ _ _ _ _
set_option maxHeartbeats 400000 in
set_option maxRecDepth 20000 in
theorem formed_noname (T : ByteArray) (mb rb p : Nat) (w : World) (deep : Int) (h : Ry T mb rb p w) {v l : Bs} (hw : wordP (T.data.toList.drop p) = .ok v l) (hx : (formOf v).x = 0) (hn : isName v = false) {res : R Ex} (hres : res = .bad 7) :
    Calls Tryd.prog 62 #[.pointer (some ⟨rb, 0, none⟩), .int .i64 deep] w (EPost T mb rb w res) := by
  have h0 : Ry T mb rb p (wA w rb deep) := h.fr (wA_fr _ _ _ _)
  have hrb : rb < w.heap.size := h.rx.rd.lt
  have hmb : mb < w.heap.size := World.ownsMap.lt h.rx.fm
  have hvl := word_len hw
  rw [drop_len] at hvl
  have hbig := h.big
  have HC := hide (word_ok T _ rb p _ h0.rx.rd h.le h.big hw)
  clear h hw
  go_enter Tryd.func62, Tryd.ntmps62
  go_wp2_with (first
    | (go_at_call 47; refine HC.out.mono ?_; rintro e w1 ⟨p1, rfl, hat, hR1, hF1⟩; have hY1 := h0.of hR1 hat.1 hF1; have hB1 := (bx_made w rb deep).fr hF1 (fun k k1 _ => by show ¬ k = rb; omega); have hlk := hY1.rx.fm.look v (by unfold maxLen; omega); have b2 := hR1.fms; have hb := hR1.lt; have br := hB1.r; have hlt3 := hB1.lt; have l0 : w.heap.size < w1.heap.size := (by omega); have HI := hide (fun (w' : World) (hf : Fr nothing w1 w') => isName_any v mb w' (hY1.fr hf).rx.fm (by omega)); generalize hfo : formOf v = f at *; have HF := hide hF1; have HY := hide hY1; have HA := hide hat; have HB := hide hB1; clear hF1 hR1 hat hY1 hB1)
    | (go_at_call 30; refine (HI.out _ (((Fr.refl _ w1).alloc _).alloc _)).mono ?_; rintro e w2 ⟨rfl, hw2⟩; have hf2 : Fr nothing w1 w2 := (hw2 ▸ ((Fr.refl _ w1).alloc _).alloc _); obtain ⟨c0, c1, c2, c3, f0, f1, f2, f3, hlt⟩ := (HB.out.fr hf2 (fun _ _ _ => id)).cells; have HF2 := hide hf2; clear hf2 hw2))
  refine bodyPost_ret (v := .tuple #[ev ⟨0, 0, [], nilS⟩, .int .i64 7]) (by simp [results, Tryd.results62, go_sem, c0, c1, c2, c3, bs]) rfl ?_
  exact ret_bad (deep := deep) hres (by decide) (((wA_fr w rb deep _).trans HF.out).trans (HF2.out.mono (fun _ _ e => e.elim))) _ _ _ _ _
theorem upost_bad {α : Type} {T : ByteArray} {K : World → Prop} {J : List α → Nat → World → Prop} {acc : List α} {z : Int} {e : Ending} {w' : World} (h : UPost T K J acc (.bad z) e w') : e = .returned (.int .i64 z) ∧ K w' ∧ z ≠ 0 := by
  obtain ⟨z', rfl, hk, ⟨_, _, _, h, _⟩ | ⟨h, hz⟩⟩ := h
  · cases h
  · cases h
    exact ⟨rfl, hk, hz⟩
theorem upost_ok {α : Type} {T : ByteArray} {K : World → Prop} {J : List α → Nat → World → Prop} {acc xs : List α} {l : Bs} {e : Ending} {w' : World} (h : UPost T K J acc (.ok xs l) e w') : ∃ p', e = .returned (.int .i64 0) ∧ K w' ∧ At T p' l ∧ J (acc ++ xs) p' w' := by
  obtain ⟨z', rfl, hk, ⟨_, _, p', h, rfl, h1, h2⟩ | ⟨h, hz⟩⟩ := h
  · cases h
    exact ⟨p', rfl, hk, h1, h2⟩
  · cases h
theorem ret_ok {T : ByteArray} {mb rb : Nat} {w w3 : World} {kk nn : Int} {tt : Bs} {xs : List Ex} {l : Bs} {p base vc : Nat} {va : Option Addr} {res : R Ex} (hres : res = .ok (.mk kk nn tt xs) l) (hF : Fr (fun k => k = rb) w w3) (hY : Ry T mb rb p w3) (hat : At T p l)
    (hrow : Row 90 4 encE ExOk base (.slice va xs.length vc) xs w3) (hbase : w.heap.size + 3 ≤ base) (hrb : rb < w.heap.size) (hmb : mb < w.heap.size) (u0 u1 u2 u3 : Value) :
    EPost T mb rb w res (.returned (.tuple #[ev ⟨kk, nn, tt, ⟨va, xs.length, vc⟩⟩, .int .i64 0])) ((((w3.setCell ⟨w.heap.size + 1 + 1, 0, none⟩ u0).setCell ⟨w.heap.size + 1 + 1, 1, none⟩ u1).setCell ⟨w.heap.size + 1 + 1, 2, none⟩ u2).setCell ⟨w.heap.size + 1 + 1, 3, none⟩ u3) := by
  obtain ⟨rs, h1, h2, h3⟩ := hrow.done ex_stays encE_len (B := w.heap.size + 3) hbase
  have h2b := hY.two
  have hE : ExOk w3 (fun k => w.heap.size + 3 ≤ k ∧ k < w3.heap.size) ⟨kk, nn, tt, ⟨va, xs.length, vc⟩⟩ (.mk kk nn tt xs) := .mk kk nn tt _ rs xs h1 h2 h3.1 h3.2
  have hf : Fr (fun k => k = w.heap.size + 1 + 1) w3 ((((w3.setCell ⟨w.heap.size + 1 + 1, 0, none⟩ u0).setCell ⟨w.heap.size + 1 + 1, 1, none⟩ u1).setCell ⟨w.heap.size + 1 + 1, 2, none⟩ u2).setCell ⟨w.heap.size + 1 + 1, 3, none⟩ u3) :=
    ((((Fr.refl (fun k => k = w.heap.size + 1 + 1) w3).setCell (p := ⟨w.heap.size + 1 + 1, 0, none⟩) (.inl rfl) _).setCell (p := ⟨w.heap.size + 1 + 1, 1, none⟩) (.inl rfl) _).setCell (p := ⟨w.heap.size + 1 + 1, 2, none⟩) (.inl rfl) _).setCell (p := ⟨w.heap.size + 1 + 1, 3, none⟩) (.inl rfl) _
  refine ⟨_, 0, rfl, hF.put4 (by omega) _ _ _ _, .inl ⟨_, l, p, hres, rfl, hat, hY.put ⟨by omega, by omega, by omega⟩ _ _ _ _, ?_⟩⟩
  exact ex_stays _ _ _ _ _ _ _ hE hf (fun k hk e => by have := hk.1; omega) (fun k hk => ⟨by omega, Nat.lt_of_lt_of_le hk.2 hf.size⟩)
set_option maxHeartbeats 400000 in
set_option maxRecDepth 20000 in
theorem formed_A_bad (T : ByteArray) (mb rb p : Nat) (w : World) (deep : Int) (h : Ry T mb rb p w) {v l : Bs} (hw : wordP (T.data.toList.drop p) = .ok v l) (one : Bs → R Ex) (n : Nat)
    (hone : ∀ p w, Ry T mb rb p w → Calls Tryd.prog 55 #[.pointer (some ⟨rb, 0, none⟩), .int .i64 (deep + 1)] w (EPost T mb rb w (one (T.data.toList.drop p)))) (hless : Less one) (hd0 : 0 ≤ deep) (hd1 : deep ≤ 100) (hN : T.size < n)
    (hx : (formOf v).x = 0) (hn : isName v = true) {z : Int} (hmany : many one n l = .bad z) {res : R Ex} (hres : res = .bad z) :
    Calls Tryd.prog 62 #[.pointer (some ⟨rb, 0, none⟩), .int .i64 deep] w (EPost T mb rb w res) := by
  have h0 : Ry T mb rb p (wA w rb deep) := h.fr (wA_fr _ _ _ _)
  have hrb : rb < w.heap.size := h.rx.rd.lt
  have hmb : mb < w.heap.size := World.ownsMap.lt h.rx.fm
  have hvl := word_len hw
  rw [drop_len] at hvl
  have hbig := h.big
  have HC := hide (word_ok T _ rb p _ h0.rx.rd h.le h.big hw)
  clear h hw
  go_enter Tryd.func62, Tryd.ntmps62
  go_wp2_with (first
    | (go_at_call 47; refine HC.out.mono ?_; rintro e w1 ⟨p1, rfl, hat, hR1, hF1⟩; have hY1 := h0.of hR1 hat.1 hF1; have hB1 := (bx_made w rb deep).fr hF1 (fun k k1 _ => by show ¬ k = rb; omega); have hlk := hY1.rx.fm.look v (by unfold maxLen; omega); have b2 := hR1.fms; have hb := hR1.lt; have br := hB1.r; have hlt3 := hB1.lt; have l0 : w.heap.size < w1.heap.size := (by omega); have HI := hide (fun (w' : World) (hf : Fr nothing w1 w') => isName_any v mb w' (hY1.fr hf).rx.fm (by omega)); have hU := (fun (F : Obj) => parts_any T mb rb w w1 deep 11 0 v F one n p1 hone hless hd0 hd1 hB1 hY1 hrb hmb hN); rw [hat.2, hmany] at hU; have HU := hide hU; clear hU; generalize hfo : formOf v = f at *; have HF := hide hF1; have HY := hide hY1; have HA := hide hat; have HB := hide hB1; clear hF1 hR1 hat hY1 hB1)
    | (go_at_call 30; refine (HI.out _ (((Fr.refl _ w1).alloc _).alloc _)).mono ?_; rintro e w2 ⟨rfl, rfl⟩)
    | (go_at_call 48; refine (HU.out _).mono ?_; intro e w3 hu; obtain ⟨rfl, hF3, hz⟩ := upost_bad hu; have hB3 := (HB.out.fr (((Fr.refl nothing w1).alloc _).alloc _) (fun _ _ _ => id)).fr hF3 (fun k k1 k2 => by show ¬ (k = rb ∨ k = _); have := HB.out.lt; omega); obtain ⟨c0, c1, c2, c3, f0, f1, f2, f3, hlt⟩ := hB3.cells; have HF3 := hide hF3; clear hF3 hB3 hu))
  refine bodyPost_ret (v := .tuple #[ev ⟨0, 0, [], nilS⟩, .int .i64 z]) (by simp [results, Tryd.results62, go_sem, c0, c1, c2, c3, bs]) rfl ?_
  exact ret_bad (deep := deep) hres hz (((((wA_fr w rb deep _).trans HF.out).alloc _).alloc _).then HF3.out (fun j hj e => by rcases e with e | e; (exact e); (have := HB.out.lt; omega))) _ _ _ _ _
set_option maxHeartbeats 400000 in
set_option maxRecDepth 20000 in
theorem formed_A_few (T : ByteArray) (mb rb p : Nat) (w : World) (deep : Int) (h : Ry T mb rb p w) {v l : Bs} (hw : wordP (T.data.toList.drop p) = .ok v l) (one : Bs → R Ex) (n : Nat)
    (hone : ∀ p w, Ry T mb rb p w → Calls Tryd.prog 55 #[.pointer (some ⟨rb, 0, none⟩), .int .i64 (deep + 1)] w (EPost T mb rb w (one (T.data.toList.drop p)))) (hless : Less one) (hd0 : 0 ≤ deep) (hd1 : deep ≤ 100) (hN : T.size < n)
    (hx : (formOf v).x = 0) (hn : isName v = true) {xs : List Ex} {l' : Bs} (hmany : many one n l = .ok xs l') (hc : 4 < xs.length) {res : R Ex} (hres : res = .bad 5) :
    Calls Tryd.prog 62 #[.pointer (some ⟨rb, 0, none⟩), .int .i64 deep] w (EPost T mb rb w res) := by
  have h0 : Ry T mb rb p (wA w rb deep) := h.fr (wA_fr _ _ _ _)
  have hrb : rb < w.heap.size := h.rx.rd.lt
  have hmb : mb < w.heap.size := World.ownsMap.lt h.rx.fm
  have hvl := word_len hw
  rw [drop_len] at hvl
  have hbig := h.big
  have HC := hide (word_ok T _ rb p _ h0.rx.rd h.le h.big hw)
  clear h hw
  have ic : (4 : Int) < (xs.length : Int) := by omega
  go_enter Tryd.func62, Tryd.ntmps62
  go_wp2_with (first
    | (go_at_call 47; refine HC.out.mono ?_; rintro e w1 ⟨p1, rfl, hat, hR1, hF1⟩; have hY1 := h0.of hR1 hat.1 hF1; have hB1 := (bx_made w rb deep).fr hF1 (fun k k1 _ => by show ¬ k = rb; omega); have hlk := hY1.rx.fm.look v (by unfold maxLen; omega); have b2 := hR1.fms; have hb := hR1.lt; have br := hB1.r; have hlt3 := hB1.lt; have l0 : w.heap.size < w1.heap.size := (by omega); have HI := hide (fun (w' : World) (hf : Fr nothing w1 w') => isName_any v mb w' (hY1.fr hf).rx.fm (by omega)); have hU := (fun (F : Obj) => parts_any T mb rb w w1 deep 11 0 v F one n p1 hone hless hd0 hd1 hB1 hY1 hrb hmb hN); rw [hat.2, hmany] at hU; have HU := hide hU; clear hU; generalize hfo : formOf v = f at *; have HF := hide hF1; have HY := hide hY1; have HA := hide hat; have HB := hide hB1; clear hF1 hR1 hat hY1 hB1)
    | (go_at_call 30; refine (HI.out _ (((Fr.refl _ w1).alloc _).alloc _)).mono ?_; rintro e w2 ⟨rfl, rfl⟩)
    | (go_at_call 48; refine (HU.out _).mono ?_; intro e w3 hu; obtain ⟨p3, rfl, hF3, hat3, hJ3⟩ := upost_ok hu; have hB3 := (HB.out.fr (((Fr.refl nothing w1).alloc _).alloc _) (fun _ _ _ => id)).fr hF3 (fun k k1 k2 => by show ¬ (k = rb ∨ k = _); have := HB.out.lt; omega); obtain ⟨c0, c1, c2, c3, f0, f1, f2, f3, hlt⟩ := hB3.cells; have HF3 := hide hF3; rw [List.nil_append] at hJ3; have X0 := hJ3.x0; have X1 := hJ3.x1; have X2 := hJ3.x2; obtain ⟨vv, X3, hrow3⟩ := hJ3.row; obtain ⟨va, vc, hvv⟩ := hrow3.shape; subst hvv; have G3 : w3.cell? ⟨w1.heap.size, 3, none⟩ = some (.int .i64 f.n) := (HF3.out.cell (p := ⟨w1.heap.size, 3, none⟩) (by simp; omega) (by show ¬ (w1.heap.size = rb ∨ w1.heap.size = w1.heap.size + 1); omega)).trans ((World.cell?_alloc_past _ _ _ (by simp)).trans (World.cell?_alloc_new _ _ _ _)); have hl3 : w1.heap.size + 1 < w3.heap.size := (by have := HF3.out.size; simp at this; omega); have hl4 : w1.heap.size < w3.heap.size := (by omega); have HROW := hide hrow3; have HY3 := hide hJ3.ry; have HAT3 := hide hat3; clear hat3 hJ3 hrow3; clear hF3 hB3 hu))
  refine bodyPost_ret (v := .tuple #[ev ⟨0, 0, [], nilS⟩, .int .i64 5]) (by simp [results, Tryd.results62, go_sem, c0, c1, c2, c3, bs]) rfl ?_
  exact ret_bad (deep := deep) hres (by decide) (((((wA_fr w rb deep _).trans HF.out).alloc _).alloc _).then HF3.out (fun j hj e => by rcases e with e | e; (exact e); (have := HB.out.lt; omega))) _ _ _ _ _
set_option maxHeartbeats 400000 in
set_option maxRecDepth 20000 in
theorem formed_A_ok (T : ByteArray) (mb rb p : Nat) (w : World) (deep : Int) (h : Ry T mb rb p w) {v l : Bs} (hw : wordP (T.data.toList.drop p) = .ok v l) (one : Bs → R Ex) (n : Nat)
    (hone : ∀ p w, Ry T mb rb p w → Calls Tryd.prog 55 #[.pointer (some ⟨rb, 0, none⟩), .int .i64 (deep + 1)] w (EPost T mb rb w (one (T.data.toList.drop p)))) (hless : Less one) (hd0 : 0 ≤ deep) (hd1 : deep ≤ 100) (hN : T.size < n)
    (hx : (formOf v).x = 0) (hn : isName v = true) {xs : List Ex} {l' : Bs} (hmany : many one n l = .ok xs l') (hc : ¬ 4 < xs.length) {res : R Ex} (hres : res = .ok (.mk 11 0 v xs) l') :
    Calls Tryd.prog 62 #[.pointer (some ⟨rb, 0, none⟩), .int .i64 deep] w (EPost T mb rb w res) := by
  have h0 : Ry T mb rb p (wA w rb deep) := h.fr (wA_fr _ _ _ _)
  have hrb : rb < w.heap.size := h.rx.rd.lt
  have hmb : mb < w.heap.size := World.ownsMap.lt h.rx.fm
  have hvl := word_len hw
  rw [drop_len] at hvl
  have hbig := h.big
  have HC := hide (word_ok T _ rb p _ h0.rx.rd h.le h.big hw)
  clear h hw
  have ic : ¬ (4 : Int) < (xs.length : Int) := by omega
  go_enter Tryd.func62, Tryd.ntmps62
  go_wp2_with (first
    | (go_at_call 47; refine HC.out.mono ?_; rintro e w1 ⟨p1, rfl, hat, hR1, hF1⟩; have hY1 := h0.of hR1 hat.1 hF1; have hB1 := (bx_made w rb deep).fr hF1 (fun k k1 _ => by show ¬ k = rb; omega); have hlk := hY1.rx.fm.look v (by unfold maxLen; omega); have b2 := hR1.fms; have hb := hR1.lt; have br := hB1.r; have hlt3 := hB1.lt; have l0 : w.heap.size < w1.heap.size := (by omega); have HI := hide (fun (w' : World) (hf : Fr nothing w1 w') => isName_any v mb w' (hY1.fr hf).rx.fm (by omega)); have hU := (fun (F : Obj) => parts_any T mb rb w w1 deep 11 0 v F one n p1 hone hless hd0 hd1 hB1 hY1 hrb hmb hN); rw [hat.2, hmany] at hU; have HU := hide hU; clear hU; generalize hfo : formOf v = f at *; have HF := hide hF1; have HY := hide hY1; have HA := hide hat; have HB := hide hB1; clear hF1 hR1 hat hY1 hB1)
    | (go_at_call 30; refine (HI.out _ (((Fr.refl _ w1).alloc _).alloc _)).mono ?_; rintro e w2 ⟨rfl, rfl⟩)
    | (go_at_call 48; refine (HU.out _).mono ?_; intro e w3 hu; obtain ⟨p3, rfl, hF3, hat3, hJ3⟩ := upost_ok hu; have hB3 := (HB.out.fr (((Fr.refl nothing w1).alloc _).alloc _) (fun _ _ _ => id)).fr hF3 (fun k k1 k2 => by show ¬ (k = rb ∨ k = _); have := HB.out.lt; omega); obtain ⟨c0, c1, c2, c3, f0, f1, f2, f3, hlt⟩ := hB3.cells; have HF3 := hide hF3; rw [List.nil_append] at hJ3; have X0 := hJ3.x0; have X1 := hJ3.x1; have X2 := hJ3.x2; obtain ⟨vv, X3, hrow3⟩ := hJ3.row; obtain ⟨va, vc, hvv⟩ := hrow3.shape; subst hvv; have G3 : w3.cell? ⟨w1.heap.size, 3, none⟩ = some (.int .i64 f.n) := (HF3.out.cell (p := ⟨w1.heap.size, 3, none⟩) (by simp; omega) (by show ¬ (w1.heap.size = rb ∨ w1.heap.size = w1.heap.size + 1); omega)).trans ((World.cell?_alloc_past _ _ _ (by simp)).trans (World.cell?_alloc_new _ _ _ _)); have hl3 : w1.heap.size + 1 < w3.heap.size := (by have := HF3.out.size; simp at this; omega); have hl4 : w1.heap.size < w3.heap.size := (by omega); have HROW := hide hrow3; have HY3 := hide hJ3.ry; have HAT3 := hide hat3; clear hat3 hJ3 hrow3; clear hF3 hB3 hu))
  refine bodyPost_ret (v := .tuple #[ev ⟨11, 0, v, ⟨va, xs.length, vc⟩⟩, .int .i64 0]) (by simp [results, Tryd.results62, go_sem, c0, c1, c2, c3]) rfl ?_
  exact ret_ok hres (((((wA_fr w rb deep _).trans HF.out).alloc _).alloc _).then HF3.out (fun j hj e => by rcases e with e | e; (exact e); (have := HB.out.lt; omega))) HY3.out HAT3.out HROW.out (by simp; have := HB.out.lt; omega) hrb hmb _ _ _ _
set_option maxHeartbeats 400000 in
set_option maxRecDepth 20000 in
theorem formed_B_bad (T : ByteArray) (mb rb p : Nat) (w : World) (deep : Int) (h : Ry T mb rb p w) {v l : Bs} (hw : wordP (T.data.toList.drop p) = .ok v l) (one : Bs → R Ex) (n : Nat)
    (hone : ∀ p w, Ry T mb rb p w → Calls Tryd.prog 55 #[.pointer (some ⟨rb, 0, none⟩), .int .i64 (deep + 1)] w (EPost T mb rb w (one (T.data.toList.drop p)))) (hless : Less one) (hd0 : 0 ≤ deep) (hd1 : deep ≤ 100) (hN : T.size < n)
    (hx : (formOf v).x ≠ 0) {z : Int} (hmany : many one n l = .bad z) {res : R Ex} (hres : res = .bad z) :
    Calls Tryd.prog 62 #[.pointer (some ⟨rb, 0, none⟩), .int .i64 deep] w (EPost T mb rb w res) := by
  have h0 : Ry T mb rb p (wA w rb deep) := h.fr (wA_fr _ _ _ _)
  have hrb : rb < w.heap.size := h.rx.rd.lt
  have hmb : mb < w.heap.size := World.ownsMap.lt h.rx.fm
  have hvl := word_len hw
  rw [drop_len] at hvl
  have hbig := h.big
  have HC := hide (word_ok T _ rb p _ h0.rx.rd h.le h.big hw)
  clear h hw
  have hx11 := form_x v
  have i11 : ((formOf v).x == 11) = false := by rw [beq_eq_false_iff_ne]; omega
  have j11 : ((formOf v).x != 11) = true := by rw [bne, i11]; rfl
  have i0 : ((formOf v).x == 0) = false := by rw [beq_eq_false_iff_ne]; exact hx
  go_enter Tryd.func62, Tryd.ntmps62
  go_wp2_with (first
    | (go_at_call 47; refine HC.out.mono ?_; rintro e w1 ⟨p1, rfl, hat, hR1, hF1⟩; have hY1 := h0.of hR1 hat.1 hF1; have hB1 := (bx_made w rb deep).fr hF1 (fun k k1 _ => by show ¬ k = rb; omega); have hlk := hY1.rx.fm.look v (by unfold maxLen; omega); have b2 := hR1.fms; have hb := hR1.lt; have br := hB1.r; have hlt3 := hB1.lt; have l0 : w.heap.size < w1.heap.size := (by omega); have hU := (fun (F : Obj) => parts_any T mb rb w w1 deep (formOf v).x (formOf v).o [] F one n p1 hone hless hd0 hd1 hB1 hY1 hrb hmb hN); rw [hat.2, hmany] at hU; have HU := hide hU; clear hU; generalize hfo : formOf v = f at *; have HF := hide hF1; have HY := hide hY1; have HA := hide hat; have HB := hide hB1; clear hF1 hR1 hat hY1 hB1)
    | (go_at_call 48; refine (HU.out _).mono ?_; intro e w3 hu; obtain ⟨rfl, hF3, hz⟩ := upost_bad hu; have hB3 := (HB.out.fr (((Fr.refl nothing w1).alloc _).alloc _) (fun _ _ _ => id)).fr hF3 (fun k k1 k2 => by show ¬ (k = rb ∨ k = _); have := HB.out.lt; omega); obtain ⟨c0, c1, c2, c3, f0, f1, f2, f3, hlt⟩ := hB3.cells; have HF3 := hide hF3; clear hF3 hB3 hu))
  refine bodyPost_ret (v := .tuple #[ev ⟨0, 0, [], nilS⟩, .int .i64 z]) (by simp [results, Tryd.results62, go_sem, c0, c1, c2, c3, bs]) rfl ?_
  exact ret_bad (deep := deep) hres hz (((((wA_fr w rb deep _).trans HF.out).alloc _).alloc _).then HF3.out (fun j hj e => by rcases e with e | e; (exact e); (have := HB.out.lt; omega))) _ _ _ _ _
set_option maxHeartbeats 400000 in
set_option maxRecDepth 20000 in
theorem formed_B_few (T : ByteArray) (mb rb p : Nat) (w : World) (deep : Int) (h : Ry T mb rb p w) {v l : Bs} (hw : wordP (T.data.toList.drop p) = .ok v l) (one : Bs → R Ex) (n : Nat)
    (hone : ∀ p w, Ry T mb rb p w → Calls Tryd.prog 55 #[.pointer (some ⟨rb, 0, none⟩), .int .i64 (deep + 1)] w (EPost T mb rb w (one (T.data.toList.drop p)))) (hless : Less one) (hd0 : 0 ≤ deep) (hd1 : deep ≤ 100) (hN : T.size < n)
    (hx : (formOf v).x ≠ 0) {xs : List Ex} {l' : Bs} (hmany : many one n l = .ok xs l') (hc : ¬ xs.length = (formOf v).n) {res : R Ex} (hres : res = .bad 5) :
    Calls Tryd.prog 62 #[.pointer (some ⟨rb, 0, none⟩), .int .i64 deep] w (EPost T mb rb w res) := by
  have h0 : Ry T mb rb p (wA w rb deep) := h.fr (wA_fr _ _ _ _)
  have hrb : rb < w.heap.size := h.rx.rd.lt
  have hmb : mb < w.heap.size := World.ownsMap.lt h.rx.fm
  have hvl := word_len hw
  rw [drop_len] at hvl
  have hbig := h.big
  have HC := hide (word_ok T _ rb p _ h0.rx.rd h.le h.big hw)
  clear h hw
  have hx11 := form_x v
  have i11 : ((formOf v).x == 11) = false := by rw [beq_eq_false_iff_ne]; omega
  have j11 : ((formOf v).x != 11) = true := by rw [bne, i11]; rfl
  have i0 : ((formOf v).x == 0) = false := by rw [beq_eq_false_iff_ne]; exact hx
  have hc' := hc
  clear hc
  have ic : ((xs.length : Int) == ((formOf v).n : Int)) = false := by rw [beq_eq_false_iff_ne]; omega
  have jc : ((xs.length : Int) != ((formOf v).n : Int)) = true := by rw [bne, ic]; rfl
  clear hc'
  go_enter Tryd.func62, Tryd.ntmps62
  go_wp2_with (first
    | (go_at_call 47; refine HC.out.mono ?_; rintro e w1 ⟨p1, rfl, hat, hR1, hF1⟩; have hY1 := h0.of hR1 hat.1 hF1; have hB1 := (bx_made w rb deep).fr hF1 (fun k k1 _ => by show ¬ k = rb; omega); have hlk := hY1.rx.fm.look v (by unfold maxLen; omega); have b2 := hR1.fms; have hb := hR1.lt; have br := hB1.r; have hlt3 := hB1.lt; have l0 : w.heap.size < w1.heap.size := (by omega); have hU := (fun (F : Obj) => parts_any T mb rb w w1 deep (formOf v).x (formOf v).o [] F one n p1 hone hless hd0 hd1 hB1 hY1 hrb hmb hN); rw [hat.2, hmany] at hU; have HU := hide hU; clear hU; generalize hfo : formOf v = f at *; have HF := hide hF1; have HY := hide hY1; have HA := hide hat; have HB := hide hB1; clear hF1 hR1 hat hY1 hB1)
    | (go_at_call 48; refine (HU.out _).mono ?_; intro e w3 hu; obtain ⟨p3, rfl, hF3, hat3, hJ3⟩ := upost_ok hu; have hB3 := (HB.out.fr (((Fr.refl nothing w1).alloc _).alloc _) (fun _ _ _ => id)).fr hF3 (fun k k1 k2 => by show ¬ (k = rb ∨ k = _); have := HB.out.lt; omega); obtain ⟨c0, c1, c2, c3, f0, f1, f2, f3, hlt⟩ := hB3.cells; have HF3 := hide hF3; rw [List.nil_append] at hJ3; have X0 := hJ3.x0; have X1 := hJ3.x1; have X2 := hJ3.x2; obtain ⟨vv, X3, hrow3⟩ := hJ3.row; obtain ⟨va, vc, hvv⟩ := hrow3.shape; subst hvv; have G3 : w3.cell? ⟨w1.heap.size, 3, none⟩ = some (.int .i64 f.n) := (HF3.out.cell (p := ⟨w1.heap.size, 3, none⟩) (by simp; omega) (by show ¬ (w1.heap.size = rb ∨ w1.heap.size = w1.heap.size + 1); omega)).trans ((World.cell?_alloc_past _ _ _ (by simp)).trans (World.cell?_alloc_new _ _ _ _)); have hl3 : w1.heap.size + 1 < w3.heap.size := (by have := HF3.out.size; simp at this; omega); have hl4 : w1.heap.size < w3.heap.size := (by omega); have HROW := hide hrow3; have HY3 := hide hJ3.ry; have HAT3 := hide hat3; clear hat3 hJ3 hrow3; clear hF3 hB3 hu))
  refine bodyPost_ret (v := .tuple #[ev ⟨0, 0, [], nilS⟩, .int .i64 5]) (by simp [results, Tryd.results62, go_sem, c0, c1, c2, c3, bs]) rfl ?_
  exact ret_bad (deep := deep) hres (by decide) (((((wA_fr w rb deep _).trans HF.out).alloc _).alloc _).then HF3.out (fun j hj e => by rcases e with e | e; (exact e); (have := HB.out.lt; omega))) _ _ _ _ _
set_option maxHeartbeats 400000 in
set_option maxRecDepth 20000 in
theorem formed_B_ok (T : ByteArray) (mb rb p : Nat) (w : World) (deep : Int) (h : Ry T mb rb p w) {v l : Bs} (hw : wordP (T.data.toList.drop p) = .ok v l) (one : Bs → R Ex) (n : Nat)
    (hone : ∀ p w, Ry T mb rb p w → Calls Tryd.prog 55 #[.pointer (some ⟨rb, 0, none⟩), .int .i64 (deep + 1)] w (EPost T mb rb w (one (T.data.toList.drop p)))) (hless : Less one) (hd0 : 0 ≤ deep) (hd1 : deep ≤ 100) (hN : T.size < n)
    (hx : (formOf v).x ≠ 0) {xs : List Ex} {l' : Bs} (hmany : many one n l = .ok xs l') (hc : xs.length = (formOf v).n) {res : R Ex} (hres : res = .ok (.mk (formOf v).x (formOf v).o [] xs) l') :
    Calls Tryd.prog 62 #[.pointer (some ⟨rb, 0, none⟩), .int .i64 deep] w (EPost T mb rb w res) := by
  have h0 : Ry T mb rb p (wA w rb deep) := h.fr (wA_fr _ _ _ _)
  have hrb : rb < w.heap.size := h.rx.rd.lt
  have hmb : mb < w.heap.size := World.ownsMap.lt h.rx.fm
  have hvl := word_len hw
  rw [drop_len] at hvl
  have hbig := h.big
  have HC := hide (word_ok T _ rb p _ h0.rx.rd h.le h.big hw)
  clear h hw
  have hx11 := form_x v
  have i11 : ((formOf v).x == 11) = false := by rw [beq_eq_false_iff_ne]; omega
  have j11 : ((formOf v).x != 11) = true := by rw [bne, i11]; rfl
  have i0 : ((formOf v).x == 0) = false := by rw [beq_eq_false_iff_ne]; exact hx
  have hc' := hc
  clear hc
  have ic : ((xs.length : Int) == ((formOf v).n : Int)) = true := by rw [beq_iff_eq]; omega
  have jc : ((xs.length : Int) != ((formOf v).n : Int)) = false := by rw [bne, ic]; rfl
  clear hc'
  go_enter Tryd.func62, Tryd.ntmps62
  go_wp2_with (first
    | (go_at_call 47; refine HC.out.mono ?_; rintro e w1 ⟨p1, rfl, hat, hR1, hF1⟩; have hY1 := h0.of hR1 hat.1 hF1; have hB1 := (bx_made w rb deep).fr hF1 (fun k k1 _ => by show ¬ k = rb; omega); have hlk := hY1.rx.fm.look v (by unfold maxLen; omega); have b2 := hR1.fms; have hb := hR1.lt; have br := hB1.r; have hlt3 := hB1.lt; have l0 : w.heap.size < w1.heap.size := (by omega); have hU := (fun (F : Obj) => parts_any T mb rb w w1 deep (formOf v).x (formOf v).o [] F one n p1 hone hless hd0 hd1 hB1 hY1 hrb hmb hN); rw [hat.2, hmany] at hU; have HU := hide hU; clear hU; generalize hfo : formOf v = f at *; have HF := hide hF1; have HY := hide hY1; have HA := hide hat; have HB := hide hB1; clear hF1 hR1 hat hY1 hB1)
    | (go_at_call 48; refine (HU.out _).mono ?_; intro e w3 hu; obtain ⟨p3, rfl, hF3, hat3, hJ3⟩ := upost_ok hu; have hB3 := (HB.out.fr (((Fr.refl nothing w1).alloc _).alloc _) (fun _ _ _ => id)).fr hF3 (fun k k1 k2 => by show ¬ (k = rb ∨ k = _); have := HB.out.lt; omega); obtain ⟨c0, c1, c2, c3, f0, f1, f2, f3, hlt⟩ := hB3.cells; have HF3 := hide hF3; rw [List.nil_append] at hJ3; have X0 := hJ3.x0; have X1 := hJ3.x1; have X2 := hJ3.x2; obtain ⟨vv, X3, hrow3⟩ := hJ3.row; obtain ⟨va, vc, hvv⟩ := hrow3.shape; subst hvv; have G3 : w3.cell? ⟨w1.heap.size, 3, none⟩ = some (.int .i64 f.n) := (HF3.out.cell (p := ⟨w1.heap.size, 3, none⟩) (by simp; omega) (by show ¬ (w1.heap.size = rb ∨ w1.heap.size = w1.heap.size + 1); omega)).trans ((World.cell?_alloc_past _ _ _ (by simp)).trans (World.cell?_alloc_new _ _ _ _)); have hl3 : w1.heap.size + 1 < w3.heap.size := (by have := HF3.out.size; simp at this; omega); have hl4 : w1.heap.size < w3.heap.size := (by omega); have HROW := hide hrow3; have HY3 := hide hJ3.ry; have HAT3 := hide hat3; clear hat3 hJ3 hrow3; clear hF3 hB3 hu))
  refine bodyPost_ret (v := .tuple #[ev ⟨f.x, f.o, [], ⟨va, xs.length, vc⟩⟩, .int .i64 0]) (by simp [results, Tryd.results62, go_sem, c0, c1, c2, c3, bs]) rfl ?_
  exact ret_ok hres (((((wA_fr w rb deep _).trans HF.out).alloc _).alloc _).then HF3.out (fun j hj e => by rcases e with e | e; (exact e); (have := HB.out.lt; omega))) HY3.out HAT3.out HROW.out (by simp; have := HB.out.lt; omega) hrb hmb _ _ _ _
end Go.Proofs.YtbplfhjpajkcoabDoor
