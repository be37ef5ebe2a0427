/- Expressions. -/
import Derived.Test.YtbplfhjpajkcoabDoorFormed
namespace Go.Proofs.YtbplfhjpajkcoabDoor
open Go.RowKit

theorem formed_any (T : ByteArray) (mb rb p : Nat) (w : World) (deep : Int) (h : Ry T mb rb p w) (one : Bs → R Ex) (n : Nat)
    (hone : ∀ p w, Ry T mb rb p w → Calls Tryd.prog 55 #[.pointer (some ⟨rb, 0, none⟩), .int .i64 (deep + 1)] w (EPost T mb rb w (one (T.data.toList.drop p)))) (hless : Less one) (hd0 : 0 ≤ deep) (hd1 : deep ≤ 100) (hN : T.size < n) :
    Calls Tryd.prog 62 #[.pointer (some ⟨rb, 0, none⟩), .int .i64 deep] w (EPost T mb rb w (formedP (many one n) (T.data.toList.drop p))) := by
  cases hw : wordP (T.data.toList.drop p) with
  | bad z => exact formed_word T mb rb p w deep h hw (by simp [formedP, hw, R.go])
  | ok v l =>
    have e1 : formedP (many one n) (T.data.toList.drop p) = if (formOf v).x = 0 ∧ isName v = false then .bad 7 else (many one n l).go (headE v) := by simp [formedP, hw, R.go]
    by_cases hx : (formOf v).x = 0
    · cases hn : isName v with
      | false => exact formed_noname T mb rb p w deep h hw hx hn (by rw [e1, if_pos ⟨hx, hn⟩])
      | true =>
        rw [if_neg (by simp [hn])] at e1
        cases hm : many one n l with
        | bad z => exact formed_A_bad T mb rb p w deep h hw one n hone hless hd0 hd1 hN hx hn hm (by rw [e1, hm]; rfl)
        | ok xs l' =>
          by_cases hc : 4 < xs.length
          · exact formed_A_few T mb rb p w deep h hw one n hone hless hd0 hd1 hN hx hn hm hc (by rw [e1, hm]; simp [R.go, headE, hx, hc])
          · exact formed_A_ok T mb rb p w deep h hw one n hone hless hd0 hd1 hN hx hn hm hc (by rw [e1, hm]; simp [R.go, headE, hx, hc])
    · rw [if_neg (by simp [hx])] at e1
      cases hm : many one n l with
      | bad z => exact formed_B_bad T mb rb p w deep h hw one n hone hless hd0 hd1 hN hx hm (by rw [e1, hm]; rfl)
      | ok xs l' =>
        by_cases hc : xs.length = (formOf v).n
        · exact formed_B_ok T mb rb p w deep h hw one n hone hless hd0 hd1 hN hx hm hc (by rw [e1, hm]; simp [R.go, headE, hx, hc])
        · exact formed_B_few T mb rb p w deep h hw one n hone hless hd0 hd1 hN hx hm hc (by rw [e1, hm]; simp [R.go, headE, hx, hc])

/-- What a callee answers is handed on. -/
theorem pass_on {T : ByteArray} {mb rb : Nat} {w w1 w3 : World} {res res' : R Ex} {r : RawE} {z : Int} (hres : res' = res) (hF1 : Fr (fun k => k = rb) w w1) (hB : w.heap.size < w1.heap.size) (hF3 : Fr (fun k => k = rb) w1 w3) (hrb : rb < w.heap.size) (hmb : mb < w.heap.size)
    (h : (∃ x l p, res = .ok x l ∧ z = 0 ∧ At T p l ∧ Ry T mb rb p w3 ∧ ExOk w3 (fun k => w1.heap.size ≤ k ∧ k < w3.heap.size) r x) ∨ (res = .bad z ∧ z ≠ 0)) (u0 u1 u2 u3 : Value) :
    EPost T mb rb w res' (.returned (.tuple #[ev r, .int .i64 z])) ((((w3.setCell ⟨w.heap.size, 0, none⟩ u0).setCell ⟨w.heap.size, 1, none⟩ u1).setCell ⟨w.heap.size, 2, none⟩ u2).setCell ⟨w.heap.size, 3, none⟩ u3) := by
  subst hres
  refine ⟨r, z, rfl, (hF1.trans hF3).put4 (Nat.le_refl _) _ _ _ _, ?_⟩
  rcases h with ⟨x, l, p, h1, h2, h3, h4, h5⟩ | h
  · have h2b := h4.two
    have hf : Fr (fun k => k = w.heap.size) w3 ((((w3.setCell ⟨w.heap.size, 0, none⟩ u0).setCell ⟨w.heap.size, 1, none⟩ u1).setCell ⟨w.heap.size, 2, none⟩ u2).setCell ⟨w.heap.size, 3, none⟩ u3) :=
      ((((Fr.refl (fun k => k = w.heap.size) w3).setCell (p := ⟨w.heap.size, 0, none⟩) (.inl rfl) _).setCell (p := ⟨w.heap.size, 1, none⟩) (.inl rfl) _).setCell (p := ⟨w.heap.size, 2, none⟩) (.inl rfl) _).setCell (p := ⟨w.heap.size, 3, none⟩) (.inl rfl) _
    exact .inl ⟨x, l, p, h1, h2, h3, h4.put ⟨by omega, by omega, by omega⟩ _ _ _ _, ex_stays _ _ _ _ _ _ _ h5 hf (fun k hk e => by have := hk.1; omega) (fun k hk => ⟨by omega, Nat.lt_of_lt_of_le hk.2 hf.size⟩)⟩
  · exact .inr h
theorem pass_bad {T : ByteArray} {mb rb : Nat} {w w3 : World} {res : R Ex} (r : RawE) {z : Int} (hres : res = .bad z) (hz : z ≠ 0) (hF : Fr (fun k => k = rb) w w3) (u0 u1 u2 u3 : Value) :
    EPost T mb rb w res (.returned (.tuple #[ev r, .int .i64 z])) ((((w3.setCell ⟨w.heap.size, 0, none⟩ u0).setCell ⟨w.heap.size, 1, none⟩ u1).setCell ⟨w.heap.size, 2, none⟩ u2).setCell ⟨w.heap.size, 3, none⟩ u3) :=
  ⟨r, z, rfl, hF.put4 (Nat.le_refl _) _ _ _ _, .inr ⟨hres, hz⟩⟩
set_option maxHeartbeats 400000 in
set_option maxRecDepth 20000 in
theorem expr_end (T : ByteArray) (mb rb p : Nat) (w : World) (deep : Int) (h : Ry T mb rb p w) (hs : skip (T.data.toList.drop p) = []) {res : R Ex} (hres : res = .bad 8) :
    Calls Tryd.prog 55 #[.pointer (some ⟨rb, 0, none⟩), .int .i64 deep] w (EPost T mb rb w res) := by
  have h0 : Ry T mb rb p (w.alloc (.cells z90 90)) := h.fr ((Fr.refl _ _).alloc _)
  have hrb : rb < w.heap.size := h.rx.rd.lt
  have HC := hide (next_end T _ rb p _ h0.rx.rd h.le h.big hs)
  clear h h0 hs
  go_enter Tryd.func55, Tryd.ntmps55
  go_wp2_with (go_at_call 46; refine HC.out.mono ?_; rintro e w1 ⟨rfl, hF1⟩; obtain ⟨c0, c1, c2, c3, f0, f1, f2, f3, hlt⟩ := made4 hF1 (by show ¬ w.heap.size = rb; omega); have HF := hide hF1; clear hF1)
  refine bodyPost_ret (v := .tuple #[ev ⟨0, 0, [], nilS⟩, .int .i64 8]) (by simp [results, Tryd.results55, go_sem, c0, c1, c2, c3, bs]) rfl ?_
  exact pass_bad _ hres (by decide) (((Fr.refl _ w).alloc _).trans HF.out) _ _ _ _
set_option maxHeartbeats 400000 in
set_option maxRecDepth 20000 in
theorem expr_close (T : ByteArray) (mb rb p : Nat) (w : World) (deep : Int) (h : Ry T mb rb p w) {t : Bs} (hs : skip (T.data.toList.drop p) = 41 :: t) {res : R Ex} (hres : res = .bad 2) :
    Calls Tryd.prog 55 #[.pointer (some ⟨rb, 0, none⟩), .int .i64 deep] w (EPost T mb rb w res) := by
  have h0 : Ry T mb rb p (w.alloc (.cells z90 90)) := h.fr ((Fr.refl _ _).alloc _)
  have hrb : rb < w.heap.size := h.rx.rd.lt
  have HC := hide (next_some T _ rb p _ h0.rx.rd h.le h.big hs)
  clear h h0 hs
  go_enter Tryd.func55, Tryd.ntmps55
  go_wp2_with (go_at_call 46; refine HC.out.mono ?_; rintro e w1 ⟨p1, rfl, hat, hR1, hF1⟩; obtain ⟨c0, c1, c2, c3, f0, f1, f2, f3, hlt⟩ := made4 hF1 (by show ¬ w.heap.size = rb; omega); have HF := hide hF1; clear hF1 hat hR1)
  refine bodyPost_ret (v := .tuple #[ev ⟨0, 0, [], nilS⟩, .int .i64 2]) (by simp [results, Tryd.results55, go_sem, c0, c1, c2, c3, bs]) rfl ?_
  exact pass_bad _ hres (by decide) (((Fr.refl _ w).alloc _).trans HF.out) _ _ _ _
set_option maxHeartbeats 400000 in
set_option maxRecDepth 20000 in
theorem expr_deep (T : ByteArray) (mb rb p : Nat) (w : World) (deep : Int) (hd : 10 < deep) (h : Ry T mb rb p w) {c : UInt8} {t : Bs} (hs : skip (T.data.toList.drop p) = c :: t) (hc : c ≠ 41) {res : R Ex} (hres : res = .bad 9) :
    Calls Tryd.prog 55 #[.pointer (some ⟨rb, 0, none⟩), .int .i64 deep] w (EPost T mb rb w res) := by
  have h0 : Ry T mb rb p (w.alloc (.cells z90 90)) := h.fr ((Fr.refl _ _).alloc _)
  have hrb : rb < w.heap.size := h.rx.rd.lt
  have HC := hide (next_some T _ rb p _ h0.rx.rd h.le h.big hs)
  have h41 : ((c.toNat : Int) == 41) = false := by rw [is41]; simpa using hc
  clear h h0 hs
  go_enter Tryd.func55, Tryd.ntmps55
  go_wp2_with (go_at_call 46; refine HC.out.mono ?_; rintro e w1 ⟨p1, rfl, hat, hR1, hF1⟩; obtain ⟨c0, c1, c2, c3, f0, f1, f2, f3, hlt⟩ := made4 hF1 (by show ¬ w.heap.size = rb; omega); have HF := hide hF1; clear hF1 hat hR1)
  refine bodyPost_ret (v := .tuple #[ev ⟨0, 0, [], nilS⟩, .int .i64 9]) (by simp [results, Tryd.results55, go_sem, c0, c1, c2, c3, bs]) rfl ?_
  exact pass_bad _ hres (by decide) (((Fr.refl _ w).alloc _).trans HF.out) _ _ _ _
set_option maxHeartbeats 400000 in
set_option maxRecDepth 20000 in
theorem expr_single (T : ByteArray) (mb rb p : Nat) (w : World) (deep : Int) (hd : deep ≤ 10) (h : Ry T mb rb p w) {c : UInt8} {t : Bs} (hs : skip (T.data.toList.drop p) = c :: t) (hc : c ≠ 41) (hc2 : c ≠ 39) (hc3 : c ≠ 40) {res : R Ex} (hres : res = singleP MM (c :: t)) :
    Calls Tryd.prog 55 #[.pointer (some ⟨rb, 0, none⟩), .int .i64 deep] w (EPost T mb rb w res) := by
  have h0 : Ry T mb rb p (w.alloc (.cells z90 90)) := h.fr ((Fr.refl _ _).alloc _)
  have hrb : rb < w.heap.size := h.rx.rd.lt
  have hmb : mb < w.heap.size := World.ownsMap.lt h.rx.fm
  have HC := hide (next_some T _ rb p _ h0.rx.rd h.le h.big hs)
  have h41 : ((c.toNat : Int) == 41) = false := by rw [is41]; simpa using hc
  have h39 : ((c.toNat : Int) == 39) = false := by rw [is39]; simpa using hc2
  have h40 : ((c.toNat : Int) == 40) = false := by rw [is40]; simpa using hc3
  have hd' : ¬ 10 < deep := by omega
  have H0 := hide h0
  clear h h0 hs hc hc2 hc3
  go_enter Tryd.func55, Tryd.ntmps55
  go_wp2_with (first
    | (go_at_call 46; refine HC.out.mono ?_; rintro e w1 ⟨p1, rfl, hat, hR1, hF1⟩; have HS := hide (single_any T mb rb p1 w1 (H0.out.of hR1 hat.1 hF1)); have HF := hide hF1; have HA := hide hat; clear hF1 hat hR1)
    | (go_at_call 63; refine HS.out.mono ?_; rintro e w3 ⟨r, z, rfl, hF3, hr3⟩; obtain ⟨c0, c1, c2, c3, f0, f1, f2, f3, hlt⟩ := made4 (HF.out.trans hF3) (by show ¬ w.heap.size = rb; omega); have HF3 := hide hF3; have HR3 := hide hr3; clear hF3 hr3))
  refine bodyPost_ret (v := .tuple #[ev r, .int .i64 z]) (by simp [results, Tryd.results55, go_sem, c0, c1, c2, c3]) rfl ?_
  have := HR3.out
  rw [HA.out.2] at this
  exact pass_on hres (((Fr.refl _ w).alloc _).trans HF.out) (by have := HF.out.size; simp at this; omega) HF3.out hrb hmb this _ _ _ _
theorem quoted_ok (T : ByteArray) (mb rb p : Nat) (w : World) (h : Rx T mb rb p w) (hp : p < T.size) (hT : T.size ≤ 1500) {v l : Bs} (hq : quotedP (T.data.toList.drop (p + 1)) = .ok v l) :
    Calls Tryd.prog 61 #[.pointer (some ⟨rb, 0, none⟩)] w fun e w' => ∃ p', e = .returned (.tuple #[.string (bs v), .int .i64 0]) ∧ At T p' l ∧ Rx T mb rb p' w' ∧ Fr (fun k => k = rb) w w' :=
  (quoted_any T mb rb p w h hp hT).mono fun e w' hh => by
    obtain ⟨hF, ⟨v1, l1, p1, e1, e2, e3, e4⟩ | ⟨z, e1, _⟩⟩ := hh
    · rw [hq] at e1
      cases e1
      exact ⟨p1, e2, e3, e4, hF⟩
    · rw [hq] at e1
      cases e1
theorem quoted_bad (T : ByteArray) (mb rb p : Nat) (w : World) (h : Rx T mb rb p w) (hp : p < T.size) (hT : T.size ≤ 1500) {z : Int} (hq : quotedP (T.data.toList.drop (p + 1)) = .bad z) :
    Calls Tryd.prog 61 #[.pointer (some ⟨rb, 0, none⟩)] w fun e w' => e = .returned (.tuple #[.string ⟨#[]⟩, .int .i64 z]) ∧ z ≠ 0 ∧ Fr (fun k => k = rb) w w' :=
  (quoted_any T mb rb p w h hp hT).mono fun e w' hh => by
    obtain ⟨hF, ⟨v1, l1, p1, e1, e2, e3, e4⟩ | ⟨z, e1, e2, e3⟩⟩ := hh
    · rw [hq] at e1
      cases e1
    · rw [hq] at e1
      cases e1
      exact ⟨e3, e2, hF⟩
set_option maxHeartbeats 400000 in
set_option maxRecDepth 20000 in
theorem expr_quoted_ok (T : ByteArray) (mb rb p : Nat) (w : World) (deep : Int) (hd : deep ≤ 10) (h : Ry T mb rb p w) {t : Bs} (hs : skip (T.data.toList.drop p) = 39 :: t) {v l : Bs} (hq : quotedP t = .ok v l) {res : R Ex} (hres : res = .ok (.mk 2 0 v []) l) :
    Calls Tryd.prog 55 #[.pointer (some ⟨rb, 0, none⟩), .int .i64 deep] w (EPost T mb rb w res) := by
  have h0 : Ry T mb rb p (w.alloc (.cells z90 90)) := h.fr ((Fr.refl _ _).alloc _)
  have hrb : rb < w.heap.size := h.rx.rd.lt
  have hmb : mb < w.heap.size := World.ownsMap.lt h.rx.fm
  have h2b := h.two
  have HC := hide (next_some T _ rb p _ h0.rx.rd h.le h.big hs)
  have hd' : ¬ 10 < deep := by omega
  have H0 := hide h0
  clear h h0 hs
  go_enter Tryd.func55, Tryd.ntmps55
  go_wp2_with (first
    | (go_at_call 46; refine HC.out.mono ?_; rintro e w1 ⟨p1, rfl, hat, hR1, hF1⟩; have hY1 := H0.out.of hR1 hat.1 hF1; have HS := hide (quoted_ok T mb rb p1 w1 hY1.rx hat.lt hY1.big (by rw [hat.get.2.2]; exact hq)); have HF := hide hF1; have HY := hide hY1; clear hF1 hat hR1 hY1)
    | (go_at_call 61; refine HS.out.mono ?_; rintro e w3 ⟨p3, rfl, hat3, hX3, hF3⟩; obtain ⟨c0, c1, c2, c3, f0, f1, f2, f3, hlt⟩ := made4 (HF.out.trans hF3) (by show ¬ w.heap.size = rb; omega); have HF3 := hide hF3; have HA3 := hide hat3; have HY3 := hide (HY.out.of hX3.rd hat3.1 hF3); clear hF3 hat3 hX3))
  refine bodyPost_ret (v := .tuple #[ev ⟨2, 0, v, nilS⟩, .int .i64 0]) (by simp [results, Tryd.results55, go_sem, c0, c1, c2, c3]) rfl ?_
  exact ⟨_, 0, rfl, ((((Fr.refl _ w).alloc _).trans HF.out).trans HF3.out).put4 (Nat.le_refl _) _ _ _ _, .inl ⟨_, l, p3, hres, rfl, HA3.out, HY3.out.put ⟨by omega, by omega, by omega⟩ _ _ _ _, ex_leaf _ _ _ _ _⟩⟩
set_option maxHeartbeats 400000 in
set_option maxRecDepth 20000 in
theorem expr_quoted_bad (T : ByteArray) (mb rb p : Nat) (w : World) (deep : Int) (hd : deep ≤ 10) (h : Ry T mb rb p w) {t : Bs} (hs : skip (T.data.toList.drop p) = 39 :: t) {z : Int} (hq : quotedP t = .bad z) {res : R Ex} (hres : res = .bad z) :
    Calls Tryd.prog 55 #[.pointer (some ⟨rb, 0, none⟩), .int .i64 deep] w (EPost T mb rb w res) := by
  have h0 : Ry T mb rb p (w.alloc (.cells z90 90)) := h.fr ((Fr.refl _ _).alloc _)
  have hrb : rb < w.heap.size := h.rx.rd.lt
  have HC := hide (next_some T _ rb p _ h0.rx.rd h.le h.big hs)
  have hd' : ¬ 10 < deep := by omega
  have H0 := hide h0
  clear h h0 hs
  go_enter Tryd.func55, Tryd.ntmps55
  go_wp2_with (first
    | (go_at_call 46; refine HC.out.mono ?_; rintro e w1 ⟨p1, rfl, hat, hR1, hF1⟩; have hY1 := H0.out.of hR1 hat.1 hF1; have HS := hide (quoted_bad T mb rb p1 w1 hY1.rx hat.lt hY1.big (by rw [hat.get.2.2]; exact hq)); have HF := hide hF1; clear hF1 hat hR1 hY1)
    | (go_at_call 61; refine HS.out.mono ?_; rintro e w3 ⟨rfl, hz, hF3⟩; obtain ⟨c0, c1, c2, c3, f0, f1, f2, f3, hlt⟩ := made4 (HF.out.trans hF3) (by show ¬ w.heap.size = rb; omega); have HF3 := hide hF3; clear hF3))
  refine bodyPost_ret (v := .tuple #[ev ⟨2, 0, [], nilS⟩, .int .i64 z]) (by simp [results, Tryd.results55, go_sem, c0, c1, c2, c3, bs]) rfl ?_
  exact pass_bad _ hres hz ((((Fr.refl _ w).alloc _).trans HF.out).trans HF3.out) _ _ _ _
set_option maxHeartbeats 400000 in
set_option maxRecDepth 20000 in
theorem expr_formed (T : ByteArray) (mb rb p : Nat) (w : World) (deep : Int) (hd0 : 0 ≤ deep) (hd : deep ≤ 10) (h : Ry T mb rb p w) {t : Bs} (hs : skip (T.data.toList.drop p) = 40 :: t) (one : Bs → R Ex) (n : Nat)
    (hone : ∀ p w, Ry T mb rb p w → Calls Tryd.prog 55 #[.pointer (some ⟨rb, 0, none⟩), .int .i64 (deep + 1)] w (EPost T mb rb w (one (T.data.toList.drop p)))) (hless : Less one) (hN : T.size < n) {res : R Ex} (hres : res = formedP (many one n) t) :
    Calls Tryd.prog 55 #[.pointer (some ⟨rb, 0, none⟩), .int .i64 deep] w (EPost T mb rb w res) := by
  have h0 : Ry T mb rb p (w.alloc (.cells z90 90)) := h.fr ((Fr.refl _ _).alloc _)
  have hrb : rb < w.heap.size := h.rx.rd.lt
  have hmb : mb < w.heap.size := World.ownsMap.lt h.rx.fm
  have HC := hide (next_some T _ rb p _ h0.rx.rd h.le h.big hs)
  have hd' : ¬ 10 < deep := by omega
  have H0 := hide h0
  have hbig := h.big
  have HONE := hide hone
  clear h h0 hs hone
  go_enter Tryd.func55, Tryd.ntmps55
  go_wp2_with (first
    | (go_at_call 46; refine HC.out.mono ?_; rintro e w1 ⟨p1, rfl, hat, hR1, hF1⟩; have hp1 := hat.lt; have b1 := hR1.pos; have bz := hR1.fz; have bl := hR1.lt; have hF2 := hF1.setCell (p := ⟨rb, 1, none⟩) (.inl rfl) (.int .i64 ((p1 : Int) + 1)); have HS := hide (formed_any T mb rb (p1 + 1) _ deep (H0.out.of hR1.step hat.lt hF2) one n HONE.out hless hd0 (by omega) hN); have HF := hide hF2; have HA := hide hat.get.2; clear hF1 hF2 hat hR1)
    | (go_at_call 62; refine HS.out.mono ?_; rintro e w3 ⟨r, z, rfl, hF3, hr3⟩; obtain ⟨c0, c1, c2, c3, f0, f1, f2, f3, hlt⟩ := made4 (HF.out.trans hF3) (by show ¬ w.heap.size = rb; omega); have HF3 := hide hF3; have HR3 := hide hr3; clear hF3 hr3))
  refine bodyPost_ret (v := .tuple #[ev r, .int .i64 z]) (by simp [results, Tryd.results55, go_sem, c0, c1, c2, c3]) rfl ?_
  have := HR3.out
  rw [HA.out.2] at this
  exact pass_on hres (((Fr.refl _ w).alloc _).trans HF.out) (by have h1 := HF.out.size; rw [World.size_alloc] at h1; omega) HF3.out hrb hmb this _ _ _ _
/-- Expressions. -/
theorem expr_any (T : ByteArray) (mb rb N : Nat) (hN : T.size < N) : ∀ (k : Nat) (d : Int) (p : Nat) (w : World), d = 11 - (k : Int) → k ≤ 11 → Ry T mb rb p w →
    Calls Tryd.prog 55 #[.pointer (some ⟨rb, 0, none⟩), .int .i64 d] w (EPost T mb rb w (exprK MM N k (T.data.toList.drop p)))
  | 0, d, p, w, hd, hk, h => by
    cases hs : skip (T.data.toList.drop p) with
    | nil => exact expr_end T mb rb p w d h hs (by simp [exprK, hs])
    | cons c t =>
      by_cases hc : c = 41
      · subst hc
        exact expr_close T mb rb p w d h hs (by simp [exprK, hs])
      · exact expr_deep T mb rb p w d (by omega) h hs hc (by simp [exprK, hs, hc])
  | k + 1, d, p, w, hd, hk, h => by
    cases hs : skip (T.data.toList.drop p) with
    | nil => exact expr_end T mb rb p w d h hs (by simp [exprK, hs])
    | cons c t =>
      by_cases hc : c = 41
      · subst hc
        exact expr_close T mb rb p w d h hs (by simp [exprK, hs])
      · by_cases hc2 : c = 39
        · subst hc2
          cases hq : quotedP t with
          | ok v l => exact expr_quoted_ok T mb rb p w d (by omega) h hs hq (by simp [exprK, hs, quoteE, hq, R.go])
          | bad z => exact expr_quoted_bad T mb rb p w d (by omega) h hs hq (by simp [exprK, hs, quoteE, hq, R.go])
        · by_cases hc3 : c = 40
          · subst hc3
            exact expr_formed T mb rb p w d (by omega) (by omega) h hs (exprK MM N k) N (fun p w h => expr_any T mb rb N hN k (d + 1) p w (by omega) (by omega) h) (expr_less MM N k) hN (by simp [exprK, hs])
          · exact expr_single T mb rb p w d (by omega) h hs hc hc2 hc3 (by simp [exprK, hs, hc, hc2, hc3])
end Go.Proofs.YtbplfhjpajkcoabDoor
