/- The reader: what stands next; brackets; words. -/
import Derived.Test.YtbplfhjpajkcoabDoorLow
namespace Go.Proofs.YtbplfhjpajkcoabDoor
open Go.RowKit

theorem At.lt {T : ByteArray} {p : Nat} {c : UInt8} {t : Bs} (h : At T p (c :: t)) : p < T.size := by
  rcases Nat.lt_or_ge p T.size with h1 | h1
  · exact h1
  · have := drop_end h1
    rw [h.2] at this
    cases this
theorem At.get {T : ByteArray} {p : Nat} {c : UInt8} {t : Bs} (h : At T p (c :: t)) : T[p]'h.lt = c ∧ At T (p + 1) t := by
  have h2 := h.2
  rw [drop_cons h.lt] at h2
  obtain ⟨h3, h4⟩ := List.cons.inj h2
  exact ⟨h3, h.lt, h4⟩
theorem At.end {T : ByteArray} {p : Nat} (h : At T p []) : p = T.size := by
  rcases Nat.lt_or_ge p T.size with h1 | h1
  · have := h.2
    rw [drop_cons h1] at this
    cases this
  · have := h.1
    omega
set_option maxHeartbeats 400000 in
theorem next_end (T : ByteArray) (m : Value) (rb p : Nat) (w : World) (h : Rd T m rb p w) (hp : p ≤ T.size) (hT : T.size ≤ 1500) (hs : skip (T.data.toList.drop p) = []) :
    Calls Tryd.prog 46 #[.pointer (some ⟨rb, 0, none⟩)] w fun e w' => e = .returned (.tuple #[.int .u8 0, .int .i64 8]) ∧ Fr (fun k => k = rb) w w' := by
  have HC := hide (ended_any T m rb p w h hp hT)
  rw [hs] at HC
  go_enter Tryd.func46, Tryd.ntmps46
  go_wp2_with (go_at_call 17; refine HC.out.mono ?_; rintro e w1 ⟨p1, rfl, hat, hR1, hF1⟩; have HP := At.end hat; subst HP; have HF := hide hF1; clear hF1 hR1 hat)
  all_goals go_ret2
  exact ⟨rfl, HF.out⟩
set_option maxHeartbeats 400000 in
theorem next_some (T : ByteArray) (m : Value) (rb p : Nat) (w : World) (h : Rd T m rb p w) (hp : p ≤ T.size) (hT : T.size ≤ 1500) {c : UInt8} {t : Bs} (hs : skip (T.data.toList.drop p) = c :: t) :
    Calls Tryd.prog 46 #[.pointer (some ⟨rb, 0, none⟩)] w fun e w' => ∃ p', e = .returned (.tuple #[.int .u8 c.toNat, .int .i64 0]) ∧ At T p' (c :: t) ∧ Rd T m rb p' w' ∧ Fr (fun k => k = rb) w w' := by
  have HC := hide (ended_any T m rb p w h hp hT)
  rw [hs] at HC
  clear h
  go_enter Tryd.func46, Tryd.ntmps46
  go_wp2_with (go_at_call 17; refine HC.out.mono ?_; rintro e w1 ⟨p1, rfl, hat, hR1, hF1⟩; have hlt := At.lt hat; have hz : (p1 : Int) < (T.size : Int) := (by omega); have hne : ¬ (p1 : Int) = (T.size : Int) := (by omega); have hg : T[p1]'hlt = c := hat.get.1; have c0 := hR1.txt; have c1 := hR1.pos; have hb := hR1.lt; have HF := hide hF1; have HR := hide hR1; have HA := hide hat; clear hF1 hR1 hat)
  go_region
  go_wp2
  all_goals go_ret2
  exact ⟨p1, rfl, HA.out, HR.out.drew, HF.out.drew⟩
set_option maxHeartbeats 400000 in
theorem bracket_ok (T : ByteArray) (m : Value) (rb p : Nat) (w : World) (h : Rd T m rb p w) (hp : p ≤ T.size) (hT : T.size ≤ 1500) (c : UInt8) {l : Bs} (hs : bracketP c (T.data.toList.drop p) = .ok () l) :
    Calls Tryd.prog 31 #[.pointer (some ⟨rb, 0, none⟩), .int .u8 c.toNat] w fun e w' => ∃ p', e = .returned (.int .i64 0) ∧ At T p' l ∧ Rd T m rb p' w' ∧ Fr (fun k => k = rb) w w' := by
  unfold bracketP at hs
  cases hk : skip (T.data.toList.drop p) with
  | nil => rw [hk] at hs; cases hs
  | cons x t =>
    rw [hk] at hs
    dsimp only at hs
    split at hs
    · rename_i hx
      subst hx
      cases hs
      have HC := hide (next_some T m rb p w h hp hT hk)
      clear h hk
      go_enter Tryd.func31, Tryd.ntmps31
      go_wp2_with (go_at_call 46; refine HC.out.mono ?_; rintro e w1 ⟨p1, rfl, hat, hR1, hF1⟩; have hlt := At.lt hat; have hz : (p1 : Int) < (T.size : Int) := (by omega); have c1 := hR1.pos; have fz := hR1.fz; have hb := hR1.lt; have HF := hide hF1; have HR := hide hR1; have HA := hide hat; clear hF1 hR1 hat)
      all_goals go_ret
      exact ⟨p1 + 1, rfl, HA.out.get.2, HR.out.step, HF.out.setCell (p := ⟨rb, 1, none⟩) (.inl rfl) _⟩
    · cases hs
set_option maxHeartbeats 400000 in
theorem bracket_bad (T : ByteArray) (m : Value) (rb p : Nat) (w : World) (h : Rd T m rb p w) (hp : p ≤ T.size) (hT : T.size ≤ 1500) (c : UInt8) {z : Int} (hs : bracketP c (T.data.toList.drop p) = .bad z) :
    Calls Tryd.prog 31 #[.pointer (some ⟨rb, 0, none⟩), .int .u8 c.toNat] w fun e w' => e = .returned (.int .i64 z) ∧ z ≠ 0 ∧ Fr (fun k => k = rb) w w' := by
  unfold bracketP at hs
  cases hk : skip (T.data.toList.drop p) with
  | nil =>
    rw [hk] at hs
    cases hs
    have HC := hide (next_end T m rb p w h hp hT hk)
    clear h hk
    go_enter Tryd.func31, Tryd.ntmps31
    go_wp2_with (go_at_call 46; refine HC.out.mono ?_; rintro e w1 ⟨rfl, hF1⟩; have HF := hide hF1; clear hF1)
    all_goals go_ret
    exact ⟨rfl, by decide, HF.out⟩
  | cons x t =>
    rw [hk] at hs
    dsimp only at hs
    split at hs
    · cases hs
    · rename_i hx
      cases hs
      have HC := hide (next_some T m rb p w h hp hT hk)
      have hne : ((x.toNat : Int) == (c.toNat : Int)) = false := by
        rw [u8_is x c _ rfl]; simpa using hx
      clear h hk
      go_enter Tryd.func31, Tryd.ntmps31
      go_wp2_with (go_at_call 46; refine HC.out.mono ?_; rintro e w1 ⟨p1, rfl, hat, hR1, hF1⟩; have HF := hide hF1; clear hF1 hR1 hat)
      all_goals go_ret
      exact ⟨rfl, by decide, HF.out⟩
end Go.Proofs.YtbplfhjpajkcoabDoor
