/- Expressions of one word. -/
import Derived.Test.YtbplfhjpajkcoabDoorRep
namespace Go.Proofs.YtbplfhjpajkcoabDoor
open Go.RowKit

theorem Rd.fr {T : ByteArray} {m : Value} {rb p : Nat} {w w' : World} {S : Nat → Prop} (h : Rd T m rb p w) (hf : Fr S w w') (hs : ¬ S rb) : Rd T m rb p w' :=
  ⟨(hf.cell (p := ⟨rb, 0, none⟩) h.lt hs).trans h.txt, (hf.cell (p := ⟨rb, 1, none⟩) h.lt hs).trans h.pos, (hf.cell (p := ⟨rb, 2, none⟩) h.lt hs).trans h.fms, (hf.frozen (p := ⟨rb, 1, none⟩) h.lt hs).trans h.fz, Nat.lt_of_lt_of_le h.lt hf.size⟩
/-- The reader, with all that it reads. -/
structure Ry (T : ByteArray) (mb rb p : Nat) (w : World) : Prop where
  rx : Rx T mb rb p w
  er : Er w
  two : 2 ≤ rb
  le : p ≤ T.size
  big : T.size ≤ 1500
theorem Ry.of {T : ByteArray} {mb rb p p' : Nat} {w w' : World} (h : Ry T mb rb p w) (hr : Rd T (.map (some mb)) rb p' w') (hp : p' ≤ T.size) (hf : Fr (fun k => k = rb) w w') : Ry T mb rb p' w' :=
  ⟨h.rx.of hr hf, h.er.fr hf (by have := h.two; omega) (by have := h.two; omega), h.two, hp, h.big⟩
theorem Ry.fr {T : ByteArray} {mb rb p : Nat} {w w' : World} (h : Ry T mb rb p w) (hf : Fr nothing w w') : Ry T mb rb p w' :=
  ⟨⟨h.rx.rd.fr hf id, h.rx.fm.fr hf id, h.rx.ne⟩, h.er.fr hf id id, h.two, h.le, h.big⟩
def EPost (T : ByteArray) (mb rb : Nat) (w : World) (res : R Ex) (e : Ending) (w' : World) : Prop :=
  ∃ r z, e = .returned (.tuple #[ev r, .int .i64 z]) ∧ Fr (fun k => k = rb) w w' ∧
    ((∃ x l p, res = .ok x l ∧ z = 0 ∧ At T p l ∧ Ry T mb rb p w' ∧ ExOk w' (fun k => w.heap.size ≤ k ∧ k < w'.heap.size) r x) ∨ (res = .bad z ∧ z ≠ 0))
theorem ex_leaf (w : World) (P : Nat → Prop) (k n : Int) (t : Bs) : ExOk w P ⟨k, n, t, nilS⟩ (.mk k n t []) :=
  .mk k n t nilS [] [] ⟨none, 0, rfl, by unfold maxLen; simp, fun i x h => by simp at h⟩ (fun b h => by cases h) rfl (fun i r x h => by simp at h)
/-- A block made ahead stays. -/
theorem made_cells {w w1 : World} {cs : Array Value} {t : TypeId} {S : Nat → Prop} (hf : Fr S (w.alloc (.cells cs t)) w1) (hs : ¬ S w.heap.size) :
    (∀ j, w1.cell? ⟨w.heap.size, j, none⟩ = cs[j]?) ∧ (∀ j, w1.frozen? ⟨w.heap.size, j, none⟩ = false) ∧ w.heap.size < w1.heap.size := by
  have hz := hf.size
  simp at hz
  refine ⟨fun j => ?_, fun j => ?_, by omega⟩
  · rw [hf.cell (p := ⟨w.heap.size, j, none⟩) (by simp) hs, World.cell?_alloc_new]
  · rw [hf.frozen (p := ⟨w.heap.size, j, none⟩) (by simp) hs, World.frozen?_alloc_new]
abbrev z90 : Array Value := #[.int .i64 0, .int .i64 0, .string ⟨#[]⟩, .slice none 0 0]
theorem made4 {w w1 : World} {a b c d : Value} {t : TypeId} {S : Nat → Prop} (hf : Fr S (w.alloc (.cells #[a, b, c, d] t)) w1) (hs : ¬ S w.heap.size) :
    w1.cell? ⟨w.heap.size, 0, none⟩ = some a ∧ w1.cell? ⟨w.heap.size, 1, none⟩ = some b ∧ w1.cell? ⟨w.heap.size, 2, none⟩ = some c ∧ w1.cell? ⟨w.heap.size, 3, none⟩ = some d ∧ w1.frozen? ⟨w.heap.size, 0, none⟩ = false ∧ w1.frozen? ⟨w.heap.size, 1, none⟩ = false ∧ w1.frozen? ⟨w.heap.size, 2, none⟩ = false ∧ w1.frozen? ⟨w.heap.size, 3, none⟩ = false ∧ w.heap.size < w1.heap.size := by
  obtain ⟨h1, h2, h3⟩ := made_cells hf hs
  exact ⟨h1 0, h1 1, h1 2, h1 3, h2 0, h2 1, h2 2, h2 3, h3⟩
/-- What is stored in the block. -/
theorem Fr.put4 {S : Nat → Prop} {w w1 : World} (h : Fr S w w1) {b : Nat} (hb : w.heap.size ≤ b) (u0 u1 u2 u3 : Value) : Fr S w ((((w1.setCell ⟨b, 0, none⟩ u0).setCell ⟨b, 1, none⟩ u1).setCell ⟨b, 2, none⟩ u2).setCell ⟨b, 3, none⟩ u3) :=
  (((h.setCell (p := ⟨b, 0, none⟩) (.inr hb) _).setCell (p := ⟨b, 1, none⟩) (.inr hb) _).setCell (p := ⟨b, 2, none⟩) (.inr hb) _).setCell (p := ⟨b, 3, none⟩) (.inr hb) _
theorem Ry.put {T : ByteArray} {mb rb p : Nat} {w : World} (h : Ry T mb rb p w) {b : Nat} (hb : mb < b ∧ rb < b ∧ 1 < b) (u0 u1 u2 u3 : Value) : Ry T mb rb p ((((w.setCell ⟨b, 0, none⟩ u0).setCell ⟨b, 1, none⟩ u1).setCell ⟨b, 2, none⟩ u2).setCell ⟨b, 3, none⟩ u3) := by
  have hf : Fr (fun k => k = b) w ((((w.setCell ⟨b, 0, none⟩ u0).setCell ⟨b, 1, none⟩ u1).setCell ⟨b, 2, none⟩ u2).setCell ⟨b, 3, none⟩ u3) :=
    ((((Fr.refl (fun k => k = b) w).setCell (p := ⟨b, 0, none⟩) (.inl rfl) _).setCell (p := ⟨b, 1, none⟩) (.inl rfl) _).setCell (p := ⟨b, 2, none⟩) (.inl rfl) _).setCell (p := ⟨b, 3, none⟩) (.inl rfl) _
  exact ⟨⟨h.rx.rd.fr hf (by omega), h.rx.fm.fr hf (by omega), h.rx.ne⟩, h.er.fr hf (by omega) (by omega), h.two, h.le, h.big⟩
set_option maxHeartbeats 400000 in
theorem single_any (T : ByteArray) (mb rb p : Nat) (w : World) (h : Ry T mb rb p w) :
    Calls Tryd.prog 63 #[.pointer (some ⟨rb, 0, none⟩)] w (EPost T mb rb w (singleP MM (T.data.toList.drop p))) := by
  have h0 : Ry T mb rb p (w.alloc (.cells z90 90)) := h.fr ((Fr.refl _ _).alloc _)
  have hrb : rb < w.heap.size := h.rx.rd.lt
  have hmb : mb < w.heap.size := World.ownsMap.lt h.rx.fm
  have h2b := h.two
  unfold singleP
  cases hw : wordP (T.data.toList.drop p) with
  | bad z =>
    have HC := hide (word_bad T _ rb p _ h0.rx.rd h.le h.big hw)
    clear h h0 hw
    go_enter Tryd.func63, Tryd.ntmps63
    go_wp2_with (go_at_call 47; refine HC.out.mono ?_; rintro e w1 ⟨rfl, hz, hF1⟩; obtain ⟨c0, c1, c2, c3, f0, f1, f2, f3, hlt⟩ := made4 hF1 (by show ¬ w.heap.size = rb; omega); have HF := hide hF1; clear hF1)
    refine bodyPost_ret (v := .tuple #[ev ⟨0, 0, [], nilS⟩, .int .i64 z]) (by simp [results, Tryd.results63, go_sem, c0, c1, c2, c3, bs]) rfl ⟨_, z, rfl, ?_, .inr ⟨rfl, hz⟩⟩
    exact (((Fr.refl _ w).alloc _).trans HF.out).put4 (Nat.le_refl _) _ _ _ _
  | ok v l =>
    have hvl := word_len hw
    rw [drop_len] at hvl
    have hbig := h.big
    have HC := hide (word_ok T _ rb p _ h0.rx.rd h.le h.big hw)
    clear hw h
    show Calls Tryd.prog 63 _ w (EPost T mb rb w (wordE MM v l))
    by_cases hn : isNum v = true
    · cases hv : numVal v with
      | none =>
        have hres : wordE MM v l = .bad 3 := by simp [wordE, MM, hn, hv]
        rw [hres]
        go_enter Tryd.func63, Tryd.ntmps63
        go_wp2_with (first
          | (go_at_call 47; refine HC.out.mono ?_; rintro e w1 ⟨p1, rfl, hat, hR1, hF1⟩; have hY1 := h0.of hR1 hat.1 hF1; have HI := hide (isNumber_any v w1 (by omega)); have HK := hide (number_none v w1 hY1.er (by omega) hv); have HF := hide hF1; clear hF1 hR1 hat hY1)
          | (go_at_call 69; refine HI.out.mono ?_; rintro e w2 ⟨rfl, rfl⟩)
          | (go_at_call 70; refine HK.out.mono ?_; rintro e w3 ⟨rfl, hB3⟩; have hF3 := HF.out.trans (Fr.of_below hB3 (Nat.le_refl _) _); obtain ⟨c0, c1, c2, c3, f0, f1, f2, f3, hlt⟩ := made4 hF3 (by show ¬ w.heap.size = rb; omega); have HF3 := hide hF3; clear hF3 hB3))
        refine bodyPost_ret (v := .tuple #[ev ⟨1, 0, [], nilS⟩, .int .i64 3]) (by simp [results, Tryd.results63, go_sem, c0, c1, c2, c3, bs]) rfl ⟨_, 3, rfl, ?_, .inr ⟨rfl, by decide⟩⟩
        exact (((Fr.refl _ w).alloc _).trans HF3.out).put4 (Nat.le_refl _) _ _ _ _
      | some n =>
        have hres : wordE MM v l = .ok (.mk 1 n [] []) l := by simp [wordE, MM, hn, hv]
        rw [hres]
        go_enter Tryd.func63, Tryd.ntmps63
        go_wp2_with (first
          | (go_at_call 47; refine HC.out.mono ?_; rintro e w1 ⟨p1, rfl, hat, hR1, hF1⟩; have hY1 := h0.of hR1 hat.1 hF1; have HI := hide (isNumber_any v w1 (by omega)); have HK := hide (number_some v w1 (by omega) hv); have HF := hide hF1; have HA := hide hat; have HY := hide hY1; clear hF1 hR1 hat hY1)
          | (go_at_call 69; refine HI.out.mono ?_; rintro e w2 ⟨rfl, rfl⟩)
          | (go_at_call 70; refine HK.out.mono ?_; rintro e w3 ⟨rfl, hB3⟩; have hF3 := HF.out.trans (Fr.of_below hB3 (Nat.le_refl _) _); obtain ⟨c0, c1, c2, c3, f0, f1, f2, f3, hlt⟩ := made4 hF3 (by show ¬ w.heap.size = rb; omega); have HF3 := hide hF3; have HB3 := hide hB3; clear hF3 hB3))
        refine bodyPost_ret (v := .tuple #[ev ⟨1, n, [], nilS⟩, .int .i64 0]) (by simp [results, Tryd.results63, go_sem, c0, c1, c2, c3, bs]) rfl ⟨_, 0, rfl, ?_, .inl ⟨_, l, p1, rfl, rfl, HA.out, ?_, ex_leaf _ _ _ _ _⟩⟩
        · exact (((Fr.refl _ w).alloc _).trans HF3.out).put4 (Nat.le_refl _) _ _ _ _
        · exact (HY.out.fr (Fr.of_below HB3.out (Nat.le_refl _) _)).put ⟨by omega, by omega, by omega⟩ _ _ _ _
    · have hn0 : isNum v = false := by simpa using hn
      by_cases hm : isName v = true
      · have hres : wordE MM v l = .ok (.mk 3 0 v []) l := by simp [wordE, MM, hn0, hm]
        rw [hres]
        go_enter Tryd.func63, Tryd.ntmps63
        go_wp2_with (first
          | (go_at_call 47; refine HC.out.mono ?_; rintro e w1 ⟨p1, rfl, hat, hR1, hF1⟩; have hY1 := h0.of hR1 hat.1 hF1; have HI := hide (isNumber_any v w1 (by omega)); have HJ := hide (isName_any v mb w1 hY1.rx.fm (by omega)); have b2 := hR1.fms; have hb := hR1.lt; obtain ⟨c0, c1, c2, c3, f0, f1, f2, f3, hlt⟩ := made4 hF1 (by show ¬ w.heap.size = rb; omega); have HF := hide hF1; have HA := hide hat; have HY := hide hY1; clear hF1 hR1 hat hY1)
          | (go_at_call 69; refine HI.out.mono ?_; rintro e w2 ⟨rfl, rfl⟩)
          | (go_at_call 30; refine HJ.out.mono ?_; rintro e w2 ⟨rfl, rfl⟩))
        refine bodyPost_ret (v := .tuple #[ev ⟨3, 0, v, nilS⟩, .int .i64 0]) (by simp [results, Tryd.results63, go_sem, c0, c1, c2, c3]) rfl ⟨_, 0, rfl, ?_, .inl ⟨_, l, p1, rfl, rfl, HA.out, ?_, ex_leaf _ _ _ _ _⟩⟩
        · exact (((Fr.refl _ w).alloc _).trans HF.out).put4 (Nat.le_refl _) _ _ _ _
        · exact HY.out.put ⟨by omega, by omega, by omega⟩ _ _ _ _
      · have hm0 : isName v = false := by simpa using hm
        have hres : wordE MM v l = .bad 7 := by simp [wordE, MM, hn0, hm0]
        rw [hres]
        go_enter Tryd.func63, Tryd.ntmps63
        go_wp2_with (first
          | (go_at_call 47; refine HC.out.mono ?_; rintro e w1 ⟨p1, rfl, hat, hR1, hF1⟩; have hY1 := h0.of hR1 hat.1 hF1; have HI := hide (isNumber_any v w1 (by omega)); have HJ := hide (isName_any v mb w1 hY1.rx.fm (by omega)); have b2 := hR1.fms; have hb := hR1.lt; obtain ⟨c0, c1, c2, c3, f0, f1, f2, f3, hlt⟩ := made4 hF1 (by show ¬ w.heap.size = rb; omega); have HF := hide hF1; clear hF1 hR1 hat hY1)
          | (go_at_call 69; refine HI.out.mono ?_; rintro e w2 ⟨rfl, rfl⟩)
          | (go_at_call 30; refine HJ.out.mono ?_; rintro e w2 ⟨rfl, rfl⟩))
        refine bodyPost_ret (v := .tuple #[ev ⟨0, 0, [], nilS⟩, .int .i64 7]) (by simp [results, Tryd.results63, go_sem, c0, c1, c2, c3, bs]) rfl ⟨_, 7, rfl, ?_, .inr ⟨rfl, by decide⟩⟩
        exact (((Fr.refl _ w).alloc _).trans HF.out).put4 (Nat.le_refl _) _ _ _ _
end Go.Proofs.YtbplfhjpajkcoabDoor
