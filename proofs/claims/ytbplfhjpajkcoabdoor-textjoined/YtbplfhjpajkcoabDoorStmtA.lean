/- A statement. -/
import Derived.Test.YtbplfhjpajkcoabDoorStmt0
namespace Go.Proofs.YtbplfhjpajkcoabDoor
open Go.RowKit

set_option maxHeartbeats 1000000 in
set_option maxRecDepth 20000 in
theorem stmt_S1 (T : ByteArray) (mb rb p : Nat) (w : World) (deep : Int) (h : Ry T mb rb p w) {z : Int} (hb : bracketP 40 (T.data.toList.drop p) = .bad z) {res : R St} (hres : res = .bad z) :
    Calls Tryd.prog 51 #[.pointer (some ⟨rb, 0, none⟩), .int .i64 deep] w (SPost T mb rb w res) := by
  have hF0 : Fr (fun k => k = rb) w (w.alloc (.cells z43 43)) := (Fr.refl _ w).alloc _
  have h0 : Ry T mb rb p (w.alloc (.cells z43 43)) := h.fr ((Fr.refl _ w).alloc _)
  have hrb : rb < w.heap.size := h.rx.rd.lt
  have hmb : mb < w.heap.size := World.ownsMap.lt h.rx.fm
  have h2b := h.two
  have hbig := h.big
  have HC := hide (bracket_bad T _ rb p _ h0.rx.rd h.le h.big 40 hb)
  have HF0 := hide hF0
  clear h h0 hb hF0
  go_enter Tryd.func51, Tryd.ntmps51
  go_wp2_with (go_at_call 31; refine HC.out.mono ?_; rintro e w1 ⟨rfl, hz, hF1⟩; obtain ⟨c0, c1, c2, c3, c4, f0, f1, f2, f3, f4, hlt⟩ := ((B5.made w).fr hF1 (by show ¬ w.heap.size = rb; omega)).cells; have HF := hide hF1; clear hF1)
  refine bodyPost_ret (v := .tuple #[sv ⟨0, [], nilS, nilS, nilS⟩, .int .i64 z]) (by simp [results, Tryd.results51, go_sem, c0, c1, c2, c3, c4, bs]) rfl ?_
  exact st_bad _ hres hz (HF0.out.trans HF.out) _ _ _ _ _
set_option maxHeartbeats 1000000 in
set_option maxRecDepth 20000 in
theorem stmt_S2 (T : ByteArray) (mb rb p : Nat) (w : World) (deep : Int) (h : Ry T mb rb p w) {l : Bs} (hb : bracketP 40 (T.data.toList.drop p) = .ok () l) {z : Int} (hw : wordP l = .bad z) {res : R St} (hres : res = .bad z) :
    Calls Tryd.prog 51 #[.pointer (some ⟨rb, 0, none⟩), .int .i64 deep] w (SPost T mb rb w res) := by
  have hF0 : Fr (fun k => k = rb) w (w.alloc (.cells z43 43)) := (Fr.refl _ w).alloc _
  have h0 : Ry T mb rb p (w.alloc (.cells z43 43)) := h.fr ((Fr.refl _ w).alloc _)
  have hrb : rb < w.heap.size := h.rx.rd.lt
  have hmb : mb < w.heap.size := World.ownsMap.lt h.rx.fm
  have h2b := h.two
  have hbig := h.big
  have HC := hide (bracket_ok T _ rb p _ h0.rx.rd h.le h.big 40 hb)
  have HF0 := hide hF0
  have H0 := hide h0
  clear h h0 hb hF0
  go_enter Tryd.func51, Tryd.ntmps51
  go_wp2_with (first
    | (go_at_call 31; refine HC.out.mono ?_; rintro e w1 ⟨p1, rfl, hat, hR1, hF1⟩; have HY1 := hide (H0.out.of hR1 hat.1 hF1); have HB1 := hide ((B5.made w).fr hF1 (by show ¬ w.heap.size = rb; omega)); have HF1 := hide (HF0.out.trans hF1); have HW := hide (word_bad T _ rb p1 w1 hR1 hat.1 hbig (by rw [hat.2]; exact hw)); clear hF1 hat hR1)
    | (go_at_call 47; refine HW.out.mono ?_; rintro e w2 ⟨rfl, hz, hF2⟩; obtain ⟨c0, c1, c2, c3, c4, f0, f1, f2, f3, f4, hlt⟩ := (HB1.out.fr hF2 (by show ¬ w.heap.size = rb; omega)).cells; have HF2 := hide (HF1.out.trans hF2); clear hF2))
  refine bodyPost_ret (v := .tuple #[sv ⟨0, [], nilS, nilS, nilS⟩, .int .i64 z]) (by simp [results, Tryd.results51, go_sem, c0, c1, c2, c3, c4, bs]) rfl ?_
  exact st_bad _ hres hz HF2.out _ _ _ _ _
set_option maxHeartbeats 1000000 in
set_option maxRecDepth 20000 in
theorem stmt_S3 (T : ByteArray) (mb rb p : Nat) (w : World) (deep : Int) (h : Ry T mb rb p w) {l : Bs} (hb : bracketP 40 (T.data.toList.drop p) = .ok () l) {v l2 : Bs} (hw : wordP l = .ok v l2) (hs : (formOf v).s = 0) {res : R St} (hres : res = .bad 1) :
    Calls Tryd.prog 51 #[.pointer (some ⟨rb, 0, none⟩), .int .i64 deep] w (SPost T mb rb w res) := by
  have hvl : v.length ≤ 1500 := by
    have h1 := word_len hw
    have h2 := bracket_less 40 _ _ _ hb
    rw [drop_len] at h2
    have := h.big
    omega
  have hF0 : Fr (fun k => k = rb) w (w.alloc (.cells z43 43)) := (Fr.refl _ w).alloc _
  have h0 : Ry T mb rb p (w.alloc (.cells z43 43)) := h.fr ((Fr.refl _ w).alloc _)
  have hrb : rb < w.heap.size := h.rx.rd.lt
  have hmb : mb < w.heap.size := World.ownsMap.lt h.rx.fm
  have h2b := h.two
  have hbig := h.big
  have HC := hide (bracket_ok T _ rb p _ h0.rx.rd h.le h.big 40 hb)
  have HF0 := hide hF0
  have H0 := hide h0
  clear h h0 hb hF0
  go_enter Tryd.func51, Tryd.ntmps51
  go_wp2_with (first
    | (go_at_call 31; refine HC.out.mono ?_; rintro e w1 ⟨p1, rfl, hat, hR1, hF1⟩; have HY1 := hide (H0.out.of hR1 hat.1 hF1); have HB1 := hide ((B5.made w).fr hF1 (by show ¬ w.heap.size = rb; omega)); have HF1 := hide (HF0.out.trans hF1); have HW := hide (word_ok T _ rb p1 w1 hR1 hat.1 hbig (by rw [hat.2]; exact hw)); clear hF1 hat hR1)
    | (go_at_call 47; refine HW.out.mono ?_; rintro e w2 ⟨p2, rfl, hat2, hR2, hF2⟩; have hY2 := HY1.out.of hR2 hat2.1 hF2; have hlk := hY2.rx.fm.look v (by unfold maxLen; omega); have b2 := hR2.fms; have hb := hR2.lt; have HY2 := hide hY2; have HA2 := hide hat2; have HB2 := hide (HB1.out.fr hF2 (by show ¬ w.heap.size = rb; omega)); have HF2 := hide (HF1.out.trans hF2); obtain ⟨c0, c1, c2, c3, c4, f0, f1, f2, f3, f4, hlt⟩ := HB2.out.cells; generalize formOf v = f at *; clear hF2 hat2 hR2 hY2))
  refine bodyPost_ret (v := .tuple #[sv ⟨0, [], nilS, nilS, nilS⟩, .int .i64 1]) (by simp [results, Tryd.results51, go_sem, c0, c1, c2, c3, c4, hlt, bs]) rfl ?_
  exact ⟨_, 1, rfl, (HF2.out.then (put5_fr w2 w.heap.size _ _ _ _ _) (fun j hj e => by omega)).alloc _, .inr ⟨hres, by decide⟩⟩
abbrev so (s : Int) : Obj := .cells #[.int .i64 s, .string ⟨#[]⟩, .slice none 0 0, .slice none 0 0, .slice none 0 0] 43
abbrev wS (w2 : World) (f : Form) : World := (w2.alloc (fo f)).alloc (so f.s)
theorem wS_cells (w2 : World) (f : Form) : (∀ j, (wS w2 f).cell? ⟨w2.heap.size + 1, j, none⟩ = #[Value.int .i64 f.s, .string ⟨#[]⟩, .slice none 0 0, .slice none 0 0, .slice none 0 0][j]?) ∧ (∀ j, (wS w2 f).frozen? ⟨w2.heap.size + 1, j, none⟩ = false) ∧ (wS w2 f).heap.size = w2.heap.size + 2 ∧ Fr nothing w2 (wS w2 f) ∧ (wS w2 f).cell? ⟨w2.heap.size, 3, none⟩ = some (.int .i64 f.n) := by
  refine ⟨fun j => ?_, fun j => ?_, by simp, ((Fr.refl _ w2).alloc _).alloc _, ?_⟩
  · have := World.cell?_alloc_new (w2.alloc (fo f)) #[Value.int .i64 f.s, .string ⟨#[]⟩, .slice none 0 0, .slice none 0 0, .slice none 0 0] 43 j
    simp only [World.size_alloc] at this
    exact this
  · have := World.frozen?_alloc_new (w2.alloc (fo f)) #[Value.int .i64 f.s, .string ⟨#[]⟩, .slice none 0 0, .slice none 0 0, .slice none 0 0] 43 j
    simp only [World.size_alloc] at this
    exact this
  · exact (World.cell?_alloc_past _ _ _ (by simp)).trans (World.cell?_alloc_new _ _ _ _)
set_option maxHeartbeats 1000000 in
set_option maxRecDepth 20000 in
theorem stmt_S4a (T : ByteArray) (mb rb p : Nat) (w : World) (deep : Int) (h : Ry T mb rb p w) {l : Bs} (hb : bracketP 40 (T.data.toList.drop p) = .ok () l) {v l2 : Bs} (hw : wordP l = .ok v l2) (i0 : ((formOf v).s == 0) = false) (i1 : ((formOf v).s == 1) = true) {z : Int} (hnm : nameP l2 = .bad z) {res : R St} (hres : res = .bad z) :
    Calls Tryd.prog 51 #[.pointer (some ⟨rb, 0, none⟩), .int .i64 deep] w (SPost T mb rb w res) := by
  have hvl : v.length ≤ 1500 := by
    have h1 := word_len hw
    have h2 := bracket_less 40 _ _ _ hb
    rw [drop_len] at h2
    have := h.big
    omega
  have hF0 : Fr (fun k => k = rb) w (w.alloc (.cells z43 43)) := (Fr.refl _ w).alloc _
  have h0 : Ry T mb rb p (w.alloc (.cells z43 43)) := h.fr ((Fr.refl _ w).alloc _)
  have hrb : rb < w.heap.size := h.rx.rd.lt
  have hmb : mb < w.heap.size := World.ownsMap.lt h.rx.fm
  have h2b := h.two
  have hbig := h.big
  have HC := hide (bracket_ok T _ rb p _ h0.rx.rd h.le h.big 40 hb)
  have HF0 := hide hF0
  have H0 := hide h0
  clear h h0 hb hF0
  go_enter Tryd.func51, Tryd.ntmps51
  go_wp2_with (first
    | (go_at_call 31; refine HC.out.mono ?_; rintro e w1 ⟨p1, rfl, hat, hR1, hF1⟩; have HY1 := hide (H0.out.of hR1 hat.1 hF1); have HB1 := hide ((B5.made w).fr hF1 (by show ¬ w.heap.size = rb; omega)); have HF1 := hide (HF0.out.trans hF1); have HW := hide (word_ok T _ rb p1 w1 hR1 hat.1 hbig (by rw [hat.2]; exact hw)); clear hF1 hat hR1)
    | (go_at_call 47; refine HW.out.mono ?_; rintro e w2 ⟨p2, rfl, hat2, hR2, hF2⟩; have hY2 := HY1.out.of hR2 hat2.1 hF2; have hlk := hY2.rx.fm.look v (by unfold maxLen; omega); have b2 := hR2.fms; have hb := hR2.lt; have HY2 := hide hY2; have HA2 := hide hat2; have HB2 := hide (HB1.out.fr hF2 (by show ¬ w.heap.size = rb; omega)); have HF2 := hide (HF1.out.trans hF2); have hWS := wS_cells w2 (formOf v); have HWS := hide hWS; have HYS := hide (hY2.fr hWS.2.2.2.1); have HBS := hide (HB2.out.fr hWS.2.2.2.1 id); have HFS : Hid (Fr (fun k => k = rb) w (wS w2 (formOf v))) := ((HF2.out.alloc _).alloc _); have HNM := hide (name_any T mb rb p2 _ HYS.out); rw [hat2.2, hnm] at HNM; have hl9 := hWS.2.2.1; have hb2 : w.heap.size < w2.heap.size := HB2.out.lt; clear hWS; generalize formOf v = f at *; clear hF2 hat2 hR2 hY2)
    | (go_at_call 32; refine HNM.out.mono ?_; rintro e w3 ⟨t3, z3, rfl, hF3, hr3⟩; obtain ⟨rfl, hz⟩ : z3 = z ∧ z ≠ 0 := (by rcases hr3 with ⟨_, _, h, _⟩ | ⟨h, hz⟩; (cases h); (cases h; exact ⟨rfl, hz⟩)); obtain ⟨c0, c1, c2, c3, c4, f0, f1, f2, f3, f4, hlt⟩ := (HBS.out.fr hF3 (by show ¬ w.heap.size = rb; omega)).cells; have m1 : w3.cell? ⟨w2.heap.size + 1, 1, none⟩ = some (.string ⟨#[]⟩) := (hF3.cell (p := ⟨w2.heap.size + 1, 1, none⟩) (by rw [HWS.out.2.2.1]; show w2.heap.size + 1 < _; omega) (by show ¬ w2.heap.size + 1 = rb; omega)).trans (HWS.out.1 1); have m2 : w3.frozen? ⟨w2.heap.size + 1, 1, none⟩ = false := (hF3.frozen (p := ⟨w2.heap.size + 1, 1, none⟩) (by rw [HWS.out.2.2.1]; show w2.heap.size + 1 < _; omega) (by show ¬ w2.heap.size + 1 = rb; omega)).trans (HWS.out.2.1 1); have m3 : w2.heap.size + 1 < w3.heap.size := (by have := hF3.size; omega); have n1 : ¬ w2.heap.size + 1 = w.heap.size := (by omega); have n2 : ¬ w.heap.size = w2.heap.size + 1 := (by omega); have HF3 := hide hF3; clear hF3 hr3))
  refine bodyPost_ret (v := .tuple #[sv ⟨0, [], nilS, nilS, nilS⟩, .int .i64 z3]) (by simp [results, Tryd.results51, go_sem, c0, c1, c2, c3, c4, bs]) rfl ?_
  exact st_bad _ hres hz ((HFS.out.trans HF3.out).setCell (p := ⟨w2.heap.size + 1, 1, none⟩) (.inr (by show w.heap.size ≤ w2.heap.size + 1; omega)) _) _ _ _ _ _
set_option maxHeartbeats 1000000 in
set_option maxRecDepth 20000 in
theorem stmt_S4b (T : ByteArray) (mb rb p : Nat) (w : World) (deep : Int) (h : Ry T mb rb p w) {l : Bs} (hb : bracketP 40 (T.data.toList.drop p) = .ok () l) {v l2 : Bs} (hw : wordP l = .ok v l2) (i0 : ((formOf v).s == 0) = false) (i1 : ((formOf v).s == 1) = false) (i2 : ((formOf v).s == 2) = true) {z : Int} (hnm : nameP l2 = .bad z) {res : R St} (hres : res = .bad z) :
    Calls Tryd.prog 51 #[.pointer (some ⟨rb, 0, none⟩), .int .i64 deep] w (SPost T mb rb w res) := by
  have hvl : v.length ≤ 1500 := by
    have h1 := word_len hw
    have h2 := bracket_less 40 _ _ _ hb
    rw [drop_len] at h2
    have := h.big
    omega
  have hF0 : Fr (fun k => k = rb) w (w.alloc (.cells z43 43)) := (Fr.refl _ w).alloc _
  have h0 : Ry T mb rb p (w.alloc (.cells z43 43)) := h.fr ((Fr.refl _ w).alloc _)
  have hrb : rb < w.heap.size := h.rx.rd.lt
  have hmb : mb < w.heap.size := World.ownsMap.lt h.rx.fm
  have h2b := h.two
  have hbig := h.big
  have HC := hide (bracket_ok T _ rb p _ h0.rx.rd h.le h.big 40 hb)
  have HF0 := hide hF0
  have H0 := hide h0
  clear h h0 hb hF0
  go_enter Tryd.func51, Tryd.ntmps51
  go_wp2_with (first
    | (go_at_call 31; refine HC.out.mono ?_; rintro e w1 ⟨p1, rfl, hat, hR1, hF1⟩; have HY1 := hide (H0.out.of hR1 hat.1 hF1); have HB1 := hide ((B5.made w).fr hF1 (by show ¬ w.heap.size = rb; omega)); have HF1 := hide (HF0.out.trans hF1); have HW := hide (word_ok T _ rb p1 w1 hR1 hat.1 hbig (by rw [hat.2]; exact hw)); clear hF1 hat hR1)
    | (go_at_call 47; refine HW.out.mono ?_; rintro e w2 ⟨p2, rfl, hat2, hR2, hF2⟩; have hY2 := HY1.out.of hR2 hat2.1 hF2; have hlk := hY2.rx.fm.look v (by unfold maxLen; omega); have b2 := hR2.fms; have hb := hR2.lt; have HY2 := hide hY2; have HA2 := hide hat2; have HB2 := hide (HB1.out.fr hF2 (by show ¬ w.heap.size = rb; omega)); have HF2 := hide (HF1.out.trans hF2); have hWS := wS_cells w2 (formOf v); have HWS := hide hWS; have HYS := hide (hY2.fr hWS.2.2.2.1); have HBS := hide (HB2.out.fr hWS.2.2.2.1 id); have HFS : Hid (Fr (fun k => k = rb) w (wS w2 (formOf v))) := ((HF2.out.alloc _).alloc _); have HNM := hide (name_any T mb rb p2 _ HYS.out); rw [hat2.2, hnm] at HNM; have hl9 := hWS.2.2.1; have hb2 : w.heap.size < w2.heap.size := HB2.out.lt; clear hWS; generalize formOf v = f at *; clear hF2 hat2 hR2 hY2)
    | (go_at_call 32; refine HNM.out.mono ?_; rintro e w3 ⟨t3, z3, rfl, hF3, hr3⟩; obtain ⟨rfl, hz⟩ : z3 = z ∧ z ≠ 0 := (by rcases hr3 with ⟨_, _, h, _⟩ | ⟨h, hz⟩; (cases h); (cases h; exact ⟨rfl, hz⟩)); obtain ⟨c0, c1, c2, c3, c4, f0, f1, f2, f3, f4, hlt⟩ := (HBS.out.fr hF3 (by show ¬ w.heap.size = rb; omega)).cells; have m1 : w3.cell? ⟨w2.heap.size + 1, 1, none⟩ = some (.string ⟨#[]⟩) := (hF3.cell (p := ⟨w2.heap.size + 1, 1, none⟩) (by rw [HWS.out.2.2.1]; show w2.heap.size + 1 < _; omega) (by show ¬ w2.heap.size + 1 = rb; omega)).trans (HWS.out.1 1); have m2 : w3.frozen? ⟨w2.heap.size + 1, 1, none⟩ = false := (hF3.frozen (p := ⟨w2.heap.size + 1, 1, none⟩) (by rw [HWS.out.2.2.1]; show w2.heap.size + 1 < _; omega) (by show ¬ w2.heap.size + 1 = rb; omega)).trans (HWS.out.2.1 1); have m3 : w2.heap.size + 1 < w3.heap.size := (by have := hF3.size; omega); have n1 : ¬ w2.heap.size + 1 = w.heap.size := (by omega); have n2 : ¬ w.heap.size = w2.heap.size + 1 := (by omega); have HF3 := hide hF3; clear hF3 hr3))
  refine bodyPost_ret (v := .tuple #[sv ⟨0, [], nilS, nilS, nilS⟩, .int .i64 z3]) (by simp [results, Tryd.results51, go_sem, c0, c1, c2, c3, c4, bs]) rfl ?_
  exact st_bad _ hres hz ((HFS.out.trans HF3.out).setCell (p := ⟨w2.heap.size + 1, 1, none⟩) (.inr (by show w.heap.size ≤ w2.heap.size + 1; omega)) _) _ _ _ _ _
end Go.Proofs.YtbplfhjpajkcoabDoor
