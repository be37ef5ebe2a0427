/- Parameters; a list of statements. -/
import Derived.Test.YtbplfhjpajkcoabDoorNames2
namespace Go.Proofs.YtbplfhjpajkcoabDoor
open Go.RowKit

def LPost {ρ α : Type} (enc : ρ → List Value) (sz : Nat) (ok : World → (Nat → Prop) → ρ → α → Prop) (T : ByteArray) (mb rb : Nat) (w : World) (res : R (List α)) (e : Ending) (w' : World) : Prop :=
  ∃ (s : Slc) (z : Int), e = .returned (.tuple #[.slice s.a s.n s.c, .int .i64 z]) ∧ Fr (fun k => k = rb) w w' ∧
    ((∃ xs l p, res = .ok xs l ∧ z = 0 ∧ At T p l ∧ Ry T mb rb p w' ∧ ∃ rs, Sl enc sz w' s.v rs ∧ (∀ b, s.v.ownBlock = some b → w.heap.size ≤ b ∧ b < w'.heap.size) ∧ Each (ok w' (fun k => w.heap.size ≤ k ∧ k < w'.heap.size)) rs xs) ∨ (res = .bad z ∧ z ≠ 0))
abbrev ro (rb : Nat) : Obj := .cells #[.pointer (some ⟨rb, 0, none⟩)] 44
theorem cell1_new (w : World) (a : Value) (t : TypeId) : (w.alloc (.cells #[a] t)).cell? ⟨w.heap.size, 0, none⟩ = some a := World.cell?_alloc_new _ _ _ _
set_option maxHeartbeats 400000 in
set_option maxRecDepth 20000 in
theorem params_any (T : ByteArray) (mb rb p N : Nat) (w : World) (h : Ry T mb rb p w) (hN : T.size < N) :
    Calls Tryd.prog 33 #[.pointer (some ⟨rb, 0, none⟩)] w (LPost encN 1 NmOk T mb rb w ((bracketP 40 (T.data.toList.drop p)).go fun _ l => many nameP N l)) := by
  have hF0 : Fr (fun k => k = rb) w ((w.alloc (ro rb)).alloc (.cells #[.slice none 0 0] 32)) := ((Fr.refl _ w).alloc _).alloc _
  have h0 : Ry T mb rb p ((w.alloc (ro rb)).alloc (.cells #[.slice none 0 0] 32)) := h.fr (((Fr.refl _ w).alloc _).alloc _)
  have hrb : rb < w.heap.size := h.rx.rd.lt
  have hmb : mb < w.heap.size := World.ownsMap.lt h.rx.fm
  have h2b := h.two
  have hle := h.le
  have hbig := h.big
  cases hbr : bracketP 40 (T.data.toList.drop p) with
  | bad z =>
    have HC := hide (bracket_bad T _ rb p _ h0.rx.rd hle hbig 40 hbr)
    have HF0 := hide hF0
    clear h h0 hbr hF0
    go_enter Tryd.func33, Tryd.ntmps33
    go_wp2_with (go_at_call 31; refine HC.out.mono ?_; rintro e w1 ⟨rfl, hz, hF1⟩; have HF := hide hF1; clear hF1)
    all_goals go_ret2
    exact ⟨nilS, z, rfl, HF0.out.trans HF.out, .inr ⟨rfl, hz⟩⟩
  | ok u l =>
    have HC := hide (bracket_ok T _ rb p _ h0.rx.rd hle hbig 40 hbr)
    have H0 := hide h0
    have HF0 := hide hF0
    clear h h0 hbr hF0
    have HU : Hid (∀ (w1 : World) (p1 : Nat), At T p1 l → Ry T mb rb p1 w1 → Fr (fun k => k = rb) ((w.alloc (ro rb)).alloc (.cells #[.slice none 0 0] 32)) w1 → Calls Tryd.prog 48 #[.pointer (some ⟨rb, 0, none⟩), .func (.func 49) #[] #[.pointer (some ⟨w.heap.size, 0, none⟩), .pointer (some ⟨w.heap.size + 1, 0, none⟩)]] w1 (UPost T (KL rb w1 (w.heap.size + 1)) (JL 9 1 encN NmOk T mb rb w1 (w.heap.size + 1)) [] (many nameP N l))) := by
      intro w1 p1 hat hY hF
      have hs := hF.size
      simp only [World.size_alloc] at hs
      have a1 : w1.cell? ⟨w.heap.size, 0, none⟩ = some (.pointer (some ⟨rb, 0, none⟩)) := (hF.cell (p := ⟨w.heap.size, 0, none⟩) (by simp; omega) (by show ¬ w.heap.size = rb; omega)).trans ((World.cell?_alloc_past _ _ _ (by simp)).trans (cell1_new _ _ _))
      have a2 : w1.cell? ⟨w.heap.size + 1, 0, none⟩ = some (.slice none 0 0) := (hF.cell (p := ⟨w.heap.size + 1, 0, none⟩) (by simp) (by show ¬ w.heap.size + 1 = rb; omega)).trans (by
        have := cell1_new (w.alloc (ro rb)) (.slice none 0 0) 32
        simp only [World.size_alloc] at this
        exact this)
      have a3 : w1.frozen? ⟨w.heap.size + 1, 0, none⟩ = false := (hF.frozen (p := ⟨w.heap.size + 1, 0, none⟩) (by simp) (by show ¬ w.heap.size + 1 = rb; omega)).trans (by
        have := World.frozen?_alloc_new (w.alloc (ro rb)) #[Value.slice none 0 0] 32 0
        simp only [World.size_alloc] at this
        exact this)
      have := upto_49 T mb rb (.pointer (some ⟨w.heap.size, 0, none⟩)) (.pointer (some ⟨w.heap.size + 1, 0, none⟩)) nameP (JL 9 1 encN NmOk T mb rb w1 (w.heap.size + 1)) (KL rb w1 (w.heap.size + 1)) name_less (fun _ _ _ h => h.ry) (fun _ _ _ h => h.k)
        (fun acc q q' a b h hq hY' hF' => h.move nm_stays hq hY' hF' (by omega) (by omega) (by omega)) (fun a b h hf => h.move hf (by omega) (by omega))
        (fun acc q a h => clN T mb rb w1 w.heap.size (w.heap.size + 1) acc q a a1 (by omega) ⟨by omega, by omega, by omega, by omega, by omega⟩ (by omega) (by omega) h) N [] p1 w1
        ⟨hY, Fr.refl _ _, a3, Nat.zero_le _, _, a2, Row.nil _ (Nat.le_refl _)⟩ (by omega)
      rw [hat.2] at this
      exact this
    show Calls Tryd.prog 33 _ w (LPost encN 1 NmOk T mb rb w (many nameP N l))
    cases hm : many nameP N l with
    | bad z =>
      rw [hm] at HU
      go_enter Tryd.func33, Tryd.ntmps33
      go_wp2_with (first
        | (go_at_call 31; refine HC.out.mono ?_; rintro e w1 ⟨p1, rfl, hat, hR1, hF1⟩; have HU1 := hide (HU.out w1 p1 hat (H0.out.of hR1 hat.1 hF1) hF1); have hs1 := hF1.size; have a1 : w1.cell? ⟨w.heap.size, 0, none⟩ = some (.pointer (some ⟨rb, 0, none⟩)) := ((hF1.cell (p := ⟨w.heap.size, 0, none⟩) (by simp; omega) (by show ¬ w.heap.size = rb; omega)).trans ((World.cell?_alloc_past _ _ _ (by simp)).trans (cell1_new _ _ _))); have l1 : w.heap.size < w1.heap.size := (by simp only [World.size_alloc] at hs1; omega); have HF := hide hF1; clear hF1 hat hR1 hs1)
        | (go_at_call 48; refine HU1.out.mono ?_; intro e w3 hu; obtain ⟨rfl, ⟨hF3, s, hs3⟩, hz⟩ := upost_bad hu; have l3 : w.heap.size + 1 < w3.heap.size := (lt_of_cell hs3); have HF3 := hide hF3; clear hF3 hu))
      all_goals go_ret2
      exact ⟨s, z, rfl, (HF0.out.trans HF.out).then HF3.out (fun j hj e => by rcases e with e | e; (exact e); omega), .inr ⟨rfl, hz⟩⟩
    | ok xs l' =>
      rw [hm] at HU
      go_enter Tryd.func33, Tryd.ntmps33
      go_wp2_with (first
        | (go_at_call 31; refine HC.out.mono ?_; rintro e w1 ⟨p1, rfl, hat, hR1, hF1⟩; have HU1 := hide (HU.out w1 p1 hat (H0.out.of hR1 hat.1 hF1) hF1); have hs1 := hF1.size; have a1 : w1.cell? ⟨w.heap.size, 0, none⟩ = some (.pointer (some ⟨rb, 0, none⟩)) := ((hF1.cell (p := ⟨w.heap.size, 0, none⟩) (by simp; omega) (by show ¬ w.heap.size = rb; omega)).trans ((World.cell?_alloc_past _ _ _ (by simp)).trans (cell1_new _ _ _))); have l1 : w.heap.size < w1.heap.size := (by simp only [World.size_alloc] at hs1; omega); have HF := hide hF1; clear hF1 hat hR1 hs1)
        | (go_at_call 48; refine HU1.out.mono ?_; intro e w3 hu; obtain ⟨p3, rfl, _, hat3, hJ3⟩ := upost_ok hu; rw [List.nil_append] at hJ3; obtain ⟨vv, hs3, hrow⟩ := hJ3.row; obtain ⟨va, vc, hvv⟩ := hrow.shape; subst hvv; have l3 : w.heap.size + 1 < w3.heap.size := (lt_of_cell hs3); have HF3 := hide hJ3.fr; have HY3 := hide hJ3.ry; have HA3 := hide hat3; have HROW := hide hrow; clear hu hat3 hJ3 hrow))
      all_goals go_ret2
      obtain ⟨rs, k1, k2, k3⟩ := HROW.out.done nm_stays encN_len (B := w.heap.size) (by omega)
      exact ⟨⟨va, xs.length, vc⟩, 0, rfl, (HF0.out.trans HF.out).then HF3.out (fun j hj e => by rcases e with e | e; (exact e); omega), .inl ⟨xs, l', p3, rfl, rfl, HA3.out, HY3.out, rs, k1, k2, k3⟩⟩
end Go.Proofs.YtbplfhjpajkcoabDoor
