/- The reader: blanks, what stands next, brackets. -/
import Derived.Test.YtbplfhjpajkcoabDoorBase
import Derived.Deep.RegionHeld3
namespace Go.Proofs.YtbplfhjpajkcoabDoor
open Go.RowKit

/-- The reader at block rb, with the forms m, stands at p in T. -/
structure Rd (T : ByteArray) (m : Value) (rb p : Nat) (w : World) : Prop where
  txt : w.cell? ⟨rb, 0, none⟩ = some (.string T)
  pos : w.cell? ⟨rb, 1, none⟩ = some (.int .i64 p)
  fms : w.cell? ⟨rb, 2, none⟩ = some m
  fz : w.frozen? ⟨rb, 1, none⟩ = false
  lt : rb < w.heap.size
def At (T : ByteArray) (p : Nat) (l : Bs) : Prop := p ≤ T.size ∧ T.data.toList.drop p = l

theorem u8_is (c d : UInt8) (n : Int) (h : (d.toNat : Int) = n) : ((c.toNat : Int) == n) = (c == d) := by
  rw [Bool.eq_iff_iff]
  simp only [beq_iff_eq]
  constructor
  · intro h2
    exact UInt8.toNat_inj.1 (by omega)
  · rintro rfl
    exact h
theorem is32 (c : UInt8) : ((c.toNat : Int) == 32) = (c == 32) := u8_is c 32 32 rfl
theorem is10 (c : UInt8) : ((c.toNat : Int) == 10) = (c == 10) := u8_is c 10 10 rfl
theorem is40 (c : UInt8) : ((c.toNat : Int) == 40) = (c == 40) := u8_is c 40 40 rfl
theorem is41 (c : UInt8) : ((c.toNat : Int) == 41) = (c == 41) := u8_is c 41 41 rfl
theorem is39 (c : UInt8) : ((c.toNat : Int) == 39) = (c == 39) := u8_is c 39 39 rfl
set_option maxHeartbeats 400000 in
theorem endsWord_any (c : UInt8) (w : World) : Calls Tryd.prog 54 #[.int .u8 c.toNat] w fun e w' => e = .returned (.bool (ends c)) ∧ w' = w := by
  have e : ends c = (((c.toNat : Int) == 32) || ((c.toNat : Int) == 10) || ((c.toNat : Int) == 40) || ((c.toNat : Int) == 41) || ((c.toNat : Int) == 39)) := by
    rw [is32, is10, is40, is41, is39]; rfl
  rw [e]
  clear e
  generalize (c.toNat : Int) = z
  go_enter Tryd.func54, Tryd.ntmps54
  go_wp2
  all_goals go_ret
  all_goals simp [*]
theorem drop_cons {T : ByteArray} {q : Nat} (h : q < T.size) : T.data.toList.drop q = T[q] :: T.data.toList.drop (q + 1) := by
  rw [List.drop_eq_getElem_cons (by simpa using h)]
  rfl
theorem drop_end {T : ByteArray} {q : Nat} (h : T.size ≤ q) : T.data.toList.drop q = [] := List.drop_eq_nil_of_le (by simpa using h)
theorem Rd.move {T : ByteArray} {m : Value} {rb q : Nat} {w : World} (h : Rd T m rb q w) (q' : Nat) : Rd T m rb q' (w.setCell ⟨rb, 1, none⟩ (.int .i64 q')) where
  txt := (World.cell?_setCell_other w ⟨rb, 1, none⟩ ⟨rb, 0, none⟩ _ (by simp)).trans h.txt
  pos := World.cell?_setCell_same _ _ _ h.pos
  fms := (World.cell?_setCell_other w ⟨rb, 1, none⟩ ⟨rb, 2, none⟩ _ (by simp)).trans h.fms
  fz := by rw [World.frozen?_setCell]; exact h.fz
  lt := by have := h.lt; simpa [World.setCell] using this
theorem Rd.drew {T : ByteArray} {m : Value} {rb q : Nat} {w : World} (h : Rd T m rb q w) : Rd T m rb q w.drew := ⟨h.txt, h.pos, h.fms, h.fz, h.lt⟩
theorem Rd.step {T : ByteArray} {m : Value} {rb q : Nat} {w : World} (h : Rd T m rb q w) : Rd T m rb (q + 1) (w.setCell ⟨rb, 1, none⟩ (.int .i64 ((q : Int) + 1))) := by
  have := h.move (q + 1)
  rwa [Int.natCast_add] at this
/-- Where the reader at rb stands. -/
def posOf (w : World) (rb : Nat) : Nat :=
  match w.cell? ⟨rb, 1, none⟩ with
  | some (.int .i64 i) => i.toNat
  | _ => 0
theorem Rd.posOf {T : ByteArray} {m : Value} {rb q : Nat} {w : World} (h : Rd T m rb q w) : posOf w rb = q := by
  simp [Go.Proofs.YtbplfhjpajkcoabDoor.posOf, h.pos]
theorem skip_blank {T : ByteArray} {q : Nat} {c : UInt8} (h : T.data.toList.drop q = c :: T.data.toList.drop (q + 1)) (hb : blank c = true) : skip (T.data.toList.drop (q + 1)) = skip (T.data.toList.drop q) := by
  rw [h]
  simp [skip, hb]
theorem skip_stop {T : ByteArray} {q : Nat} {c : UInt8} (h : T.data.toList.drop q = c :: T.data.toList.drop (q + 1)) (hb : blank c = false) : skip (T.data.toList.drop q) = T.data.toList.drop q := by
  rw [h]
  simp [skip, hb]
theorem ended_step {T : ByteArray} {m : Value} {rb p q : Nat} {w wr : World} {c : UInt8} (hR : skip (T.data.toList.drop q) = skip (T.data.toList.drop p) ∧ Rd T m rb q wr ∧ Fr (fun k => k = rb) w wr) (h : q < T.size)
    (hd : T.data.toList.drop q = c :: T.data.toList.drop (q + 1)) (hb : blank c = true) :
    (∃ q', q' ≤ T.size ∧ Hid (skip (T.data.toList.drop q') = skip (T.data.toList.drop p) ∧ Rd T m rb q' (wr.setCell ⟨rb, 1, none⟩ (.int .i64 ((q : Int) + 1))).drew ∧ Fr (fun k => k = rb) w (wr.setCell ⟨rb, 1, none⟩ (.int .i64 ((q : Int) + 1))).drew)) ∧
      T.size - posOf (wr.setCell ⟨rb, 1, none⟩ (.int .i64 ((q : Int) + 1))).drew rb < T.size - posOf wr rb := by
  have h1 := hR.2.1.step.drew
  refine ⟨⟨q + 1, h, ?_, h1, (hR.2.2.setCell (p := ⟨rb, 1, none⟩) (.inl rfl) _).drew⟩, ?_⟩
  · exact (skip_blank hd hb).trans hR.1
  · rw [h1.posOf, hR.2.1.posOf]
    omega
set_option maxHeartbeats 400000 in
theorem ended_any (T : ByteArray) (m : Value) (rb p : Nat) (w : World) (h : Rd T m rb p w) (hp : p ≤ T.size) (hT : T.size ≤ 1500) :
    Calls Tryd.prog 17 #[.pointer (some ⟨rb, 0, none⟩)] w fun e w' => ∃ p' : Nat, e = .returned (.bool (decide ((p' : Int) = T.size))) ∧ At T p' (skip (T.data.toList.drop p)) ∧ Rd T m rb p' w' ∧ Fr (fun k => k = rb) w w' := by
  go_enter Tryd.func17, Tryd.ntmps17
  go_wp2
  go_loopw [] (fun wr => ∃ q, q ≤ T.size ∧ Hid (skip (T.data.toList.drop q) = skip (T.data.toList.drop p) ∧ Rd T m rb q wr ∧ Fr (fun k => k = rb) w wr)) (fun wr => T.size - posOf wr rb)
  case atStart => exact ⟨p, hp, rfl, h, Fr.refl _ _⟩
  case round =>
    obtain ⟨q, hq, hR⟩ := hrel
    have c0 := hR.out.2.1.txt
    have c1 := hR.out.2.1.pos
    have fz := hR.out.2.1.fz
    have hlt := hR.out.2.1.lt
    clear h
    by_cases he : q < T.size
    · have hd := hide (drop_cons he)
      have hz : (q : Int) < (T.size : Int) := by omega
      generalize hc : T[q]'he = c at hd
      have h32 := is32 c
      have h10 := is10 c
      by_cases hb : c == 32
      · rw [hb] at h32
        have hbl := hide (show blank c = true by simp [blank, hb])
        go_wp2_with fail
        go_region
        go_wp2
        exact ended_step hR.out he hd.out hbl.out
      · have hb0 : (c == 32) = false := by simpa using hb
        rw [hb0] at h32
        by_cases hb2 : c == 10
        · rw [hb2] at h10
          have hbl := hide (show blank c = true by simp [blank, hb2])
          go_wp2_with fail
          go_region
          go_wp2
          exact ended_step hR.out he hd.out hbl.out
        · have hb3 : (c == 10) = false := by simpa using hb2
          rw [hb3] at h10
          have hbl := hide (show blank c = false by simp [blank, hb0, hb3])
          go_wp2_with fail
          go_region
          go_wp2
          go_region
          go_wp2
          go_ret
          have := skip_stop hd.out hbl.out
          exact ⟨q, rfl, ⟨hq, this.symm.trans hR.out.1⟩, hR.out.2.1.drew.drew, hR.out.2.2.drew.drew⟩
    · have hz : ¬ (q : Int) < (T.size : Int) := by omega
      have hqe := hide (show q = T.size by omega)
      go_wp2_with fail
      go_region
      go_wp2
      go_region
      go_wp2
      go_ret
      have := drop_end (T := T) (q := q) (by omega)
      refine ⟨q, rfl, ⟨hq, ?_⟩, hR.out.2.1.drew.drew, hR.out.2.2.drew.drew⟩
      rw [← hR.out.1, this]
      rfl
end Go.Proofs.YtbplfhjpajkcoabDoor
