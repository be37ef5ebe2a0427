/- Statements up to a bracket; blocks. -/
import Derived.Test.YtbplfhjpajkcoabDoorClosS
import Derived.Test.YtbplfhjpajkcoabDoorParams
namespace Go.Proofs.YtbplfhjpajkcoabDoor
open Go.RowKit

abbrev wC (w : World) (rb : Nat) (deep : Int) : World := ((w.alloc (ro rb)).alloc (.cells #[.int .i64 deep] 3)).alloc (.cells #[.slice none 0 0] 38)
theorem wC_cells {w : World} {rb : Nat} {deep : Int} : (wC w rb deep).cell? ⟨w.heap.size, 0, none⟩ = some (.pointer (some ⟨rb, 0, none⟩)) ∧ (wC w rb deep).cell? ⟨w.heap.size + 1, 0, none⟩ = some (.int .i64 deep) ∧ (wC w rb deep).cell? ⟨w.heap.size + 1 + 1, 0, none⟩ = some (.slice none 0 0) ∧ (wC w rb deep).frozen? ⟨w.heap.size + 1 + 1, 0, none⟩ = false ∧ (wC w rb deep).heap.size = w.heap.size + 3 := by
  refine ⟨?_, ?_, ?_, ?_, by simp⟩
  · exact (World.cell?_alloc_past _ _ _ (by simp; omega)).trans ((World.cell?_alloc_past _ _ _ (by simp)).trans (cell1_new _ _ _))
  · refine (World.cell?_alloc_past _ _ _ (by simp)).trans ?_
    have := cell1_new (w.alloc (ro rb)) (.int .i64 deep) 3
    simp only [World.size_alloc] at this
    exact this
  · have := cell1_new ((w.alloc (ro rb)).alloc (.cells #[.int .i64 deep] 3)) (.slice none 0 0) 38
    simp only [World.size_alloc] at this
    exact this
  · have := World.frozen?_alloc_new ((w.alloc (ro rb)).alloc (.cells #[.int .i64 deep] 3)) #[Value.slice none 0 0] 38 0
    simp only [World.size_alloc] at this
    exact this
set_option maxHeartbeats 400000 in
set_option maxRecDepth 20000 in
theorem stmts_any (T : ByteArray) (mb rb p N : Nat) (w : World) (deep : Int) (h : Ry T mb rb p w) (hN : T.size < N) (one : Bs → R St) (hless : Less one)
    (hone : ∀ p w, Ry T mb rb p w → Calls Tryd.prog 51 #[.pointer (some ⟨rb, 0, none⟩), .int .i64 deep] w (SPost T mb rb w (one (T.data.toList.drop p)))) :
    Calls Tryd.prog 34 #[.pointer (some ⟨rb, 0, none⟩), .int .i64 deep] w (LPost encS 5 StOk T mb rb w (many one N (T.data.toList.drop p))) := by
  have hF0 : Fr (fun k => k = rb) w (wC w rb deep) := (((Fr.refl _ w).alloc _).alloc _).alloc _
  have h0 : Ry T mb rb p (wC w rb deep) := h.fr ((((Fr.refl _ w).alloc _).alloc _).alloc _)
  have hrb : rb < w.heap.size := h.rx.rd.lt
  have hmb : mb < w.heap.size := World.ownsMap.lt h.rx.fm
  have h2b := h.two
  have hle := h.le
  obtain ⟨a1, a2, a3, a4, a5⟩ := @wC_cells w rb deep
  have hU := upto_50 T mb rb (.pointer (some ⟨w.heap.size, 0, none⟩)) (.pointer (some ⟨w.heap.size + 1, 0, none⟩)) (.pointer (some ⟨w.heap.size + 1 + 1, 0, none⟩)) one (JL 43 5 encS StOk T mb rb (wC w rb deep) (w.heap.size + 1 + 1)) (KL rb (wC w rb deep) (w.heap.size + 1 + 1)) hless (fun _ _ _ h => h.ry) (fun _ _ _ h => h.k)
    (fun acc q q' a b h hq hY' hF' => h.move st_stays hq hY' hF' (by omega) (by omega) (by omega)) (fun a b h hf => h.move hf (by omega) (by omega))
    (fun acc q a h => clS T mb rb (wC w rb deep) w.heap.size (w.heap.size + 1) (w.heap.size + 1 + 1) deep one acc q a hone hless a1 a2 (by omega) ⟨by omega, by omega, by omega, by omega, by omega, by omega, by omega⟩ (by omega) (by omega) h) N [] p (wC w rb deep)
    ⟨h0, Fr.refl _ _, a4, Nat.zero_le _, _, a3, Row.nil _ (Nat.le_refl _)⟩ (by omega)
  have HF0 := hide hF0
  clear h h0 hF0 a1 a2 a3 a4 hone
  cases hm : many one N (T.data.toList.drop p) with
  | bad z =>
    rw [hm] at hU
    have HU := hide hU
    clear hU
    go_enter Tryd.func34, Tryd.ntmps34
    go_wp2_with (go_at_call 48; refine HU.out.mono ?_; intro e w3 hu; obtain ⟨rfl, ⟨hF3, s, hs3⟩, hz⟩ := upost_bad hu; have l3 : w.heap.size + 1 + 1 < w3.heap.size := (lt_of_cell hs3); have HF3 := hide hF3; clear hF3 hu)
    all_goals go_ret2
    exact ⟨s, z, rfl, HF0.out.then HF3.out (fun j hj e => by rcases e with e | e; (exact e); omega), .inr ⟨rfl, hz⟩⟩
  | ok xs l' =>
    rw [hm] at hU
    have HU := hide hU
    clear hU
    go_enter Tryd.func34, Tryd.ntmps34
    go_wp2_with (go_at_call 48; refine HU.out.mono ?_; intro e w3 hu; obtain ⟨p3, rfl, _, hat3, hJ3⟩ := upost_ok hu; rw [List.nil_append] at hJ3; obtain ⟨vv, hs3, hrow⟩ := hJ3.row; obtain ⟨va, vc, hvv⟩ := hrow.shape; subst hvv; have l3 : w.heap.size + 1 + 1 < w3.heap.size := (lt_of_cell hs3); have HF3 := hide hJ3.fr; have HY3 := hide hJ3.ry; have HA3 := hide hat3; have HROW := hide hrow; clear hu hat3 hJ3 hrow)
    all_goals go_ret2
    obtain ⟨rs, k1, k2, k3⟩ := HROW.out.done st_stays encS_len (B := w.heap.size) (by omega)
    exact ⟨⟨va, xs.length, vc⟩, 0, rfl, HF0.out.then HF3.out (fun j hj e => by rcases e with e | e; (exact e); omega), .inl ⟨xs, l', p3, rfl, rfl, HA3.out, HY3.out, rs, k1, k2, k3⟩⟩
set_option maxHeartbeats 400000 in
theorem block_any (T : ByteArray) (mb rb p : Nat) (w : World) (deep : Int) (h : Ry T mb rb p w) (nest : Bs → R (List St))
    (hnest : ∀ p w, Ry T mb rb p w → Calls Tryd.prog 34 #[.pointer (some ⟨rb, 0, none⟩), .int .i64 deep] w (LPost encS 5 StOk T mb rb w (nest (T.data.toList.drop p)))) :
    Calls Tryd.prog 64 #[.pointer (some ⟨rb, 0, none⟩), .int .i64 deep] w (LPost encS 5 StOk T mb rb w ((bracketP 40 (T.data.toList.drop p)).go fun _ l => nest l)) := by
  cases hbr : bracketP 40 (T.data.toList.drop p) with
  | bad z =>
    have HC := hide (bracket_bad T _ rb p _ h.rx.rd h.le h.big 40 hbr)
    clear h hbr hnest
    go_enter Tryd.func64, Tryd.ntmps64
    go_wp2_with (go_at_call 31; refine HC.out.mono ?_; rintro e w1 ⟨rfl, hz, hF1⟩; have HF := hide hF1; clear hF1)
    all_goals go_ret2
    exact ⟨nilS, z, rfl, HF.out, .inr ⟨rfl, hz⟩⟩
  | ok u l =>
    have HC := hide (bracket_ok T _ rb p _ h.rx.rd h.le h.big 40 hbr)
    have H0 := hide h
    have HN := hide hnest
    clear h hbr hnest
    show Calls Tryd.prog 64 _ w (LPost encS 5 StOk T mb rb w (nest l))
    go_enter Tryd.func64, Tryd.ntmps64
    go_wp2_with (first
      | (go_at_call 31; refine HC.out.mono ?_; rintro e w1 ⟨p1, rfl, hat, hR1, hF1⟩; have hN1 := HN.out p1 w1 (H0.out.of hR1 hat.1 hF1); rw [hat.2] at hN1; have HN1 := hide hN1; have HF := hide hF1; clear hF1 hat hR1 hN1)
      | (go_at_call 34; refine HN1.out.mono ?_; rintro e w3 ⟨s, z, rfl, hF3, hr3⟩; have HF3 := hide hF3; have HR3 := hide hr3; clear hF3 hr3))
    all_goals go_ret2
    refine ⟨s, z, rfl, HF.out.trans HF3.out, ?_⟩
    have hsz := HF.out.size
    rcases HR3.out with ⟨xs, l', p3, e1, e2, e3, e4, rs, e5, e6, e7⟩ | e
    · exact .inl ⟨xs, l', p3, e1, e2, e3, e4, rs, e5, fun b hb => ⟨Nat.le_trans hsz (e6 b hb).1, (e6 b hb).2⟩, e7.1, fun i r x k1 k2 => st_stays _ _ nothing _ _ r x (e7.2 i r x k1 k2) (Fr.refl _ _) (fun _ _ => id) (fun k hk => ⟨Nat.le_trans hsz hk.1, hk.2⟩)⟩
    · exact .inr e
end Go.Proofs.YtbplfhjpajkcoabDoor
