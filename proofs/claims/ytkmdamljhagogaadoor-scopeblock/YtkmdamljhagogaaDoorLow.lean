/- The reader of the document's own answer: what is wrong, what stands next, brackets. -/
import Derived.Test.YtkmdamljhagogaaDoorBase
namespace Go.Proofs.YtkmdamljhagogaaDoor
open Go.RowKit

/-- The reader at block rb has l left, and z is wrong. -/
structure Pr (rb : Nat) (l : Bs) (z : Int) (w : World) : Prop where
  s : w.cell? ⟨rb, 0, none⟩ = some (.string (bs l))
  e : w.cell? ⟨rb, 1, none⟩ = some (.int .i64 z)
  f0 : w.frozen? ⟨rb, 0, none⟩ = false
  f1 : w.frozen? ⟨rb, 1, none⟩ = false
  lt : rb < w.heap.size
theorem Pr.fr {rb : Nat} {l : Bs} {z : Int} {w w' : World} {S : Nat → Prop} (h : Pr rb l z w) (hf : Fr S w w') (hs : ¬ S rb) : Pr rb l z w' :=
  ⟨(hf.cell (p := ⟨rb, 0, none⟩) h.lt hs).trans h.s, (hf.cell (p := ⟨rb, 1, none⟩) h.lt hs).trans h.e, (hf.frozen (p := ⟨rb, 0, none⟩) h.lt hs).trans h.f0, (hf.frozen (p := ⟨rb, 1, none⟩) h.lt hs).trans h.f1, Nat.lt_of_lt_of_le h.lt hf.size⟩
theorem Pr.drew {rb : Nat} {l : Bs} {z : Int} {w : World} (h : Pr rb l z w) : Pr rb l z w.drew := ⟨h.s, h.e, h.f0, h.f1, h.lt⟩
theorem Pr.put {rb : Nat} {l : Bs} {z : Int} {w : World} (h : Pr rb l z w) (l' : Bs) : Pr rb l' z (w.setCell ⟨rb, 0, none⟩ (.string (bs l'))) where
  s := World.cell?_setCell_same _ _ _ h.s
  e := (World.cell?_setCell_other w ⟨rb, 0, none⟩ ⟨rb, 1, none⟩ _ (by simp)).trans h.e
  f0 := by rw [World.frozen?_setCell]; exact h.f0
  f1 := by rw [World.frozen?_setCell]; exact h.f1
  lt := by have := h.lt; simpa [World.setCell] using this
theorem Pr.put' {rb : Nat} {l l' : Bs} {z : Int} {w : World} {S : ByteArray} (h : Pr rb l z w) (hS : S = bs l') : Pr rb l' z (w.setCell ⟨rb, 0, none⟩ (.string S)) := hS ▸ h.put l'
theorem Pr.err {rb : Nat} {l : Bs} {z : Int} {w : World} (h : Pr rb l z w) (z' : Int) : Pr rb l z' (w.setCell ⟨rb, 1, none⟩ (.int .i64 z')) where
  s := (World.cell?_setCell_other w ⟨rb, 1, none⟩ ⟨rb, 0, none⟩ _ (by simp)).trans h.s
  e := World.cell?_setCell_same _ _ _ h.e
  f0 := by rw [World.frozen?_setCell]; exact h.f0
  f1 := by rw [World.frozen?_setCell]; exact h.f1
  lt := by have := h.lt; simpa [World.setCell] using this
theorem Pr.unique {rb : Nat} {l l' : Bs} {z z' : Int} {w : World} (h : Pr rb l z w) (h' : Pr rb l' z' w) : l = l' ∧ z = z' := by
  have h1 := h.s.symm.trans h'.s
  have h2 := h.e.symm.trans h'.e
  simp only [Option.some.injEq, Value.string.injEq, Value.int.injEq, true_and] at h1 h2
  refine ⟨?_, h2⟩
  have := congrArg (fun a => a.data.toList) h1
  exact this
abbrev at_ (rb : Nat) : Nat → Prop := fun k => k = rb
/-- How much the reader at rb has left. -/
def lenOf (w : World) (rb : Nat) : Nat :=
  match w.cell? ⟨rb, 0, none⟩ with
  | some (.string s) => s.size
  | _ => 0
theorem Pr.lenOf {rb : Nat} {l : Bs} {z : Int} {w : World} (h : Pr rb l z w) : lenOf w rb = l.length := by
  simp [Go.Proofs.YtkmdamljhagogaaDoor.lenOf, h.s, bs_size]
theorem bs_extract (T : ByteArray) (a b : Nat) : T.extract a b = bs ((T.data.toList.drop a).take (b - a)) := by
  apply ByteArray.ext
  apply Array.toList_inj.1
  simp [bs, ByteArray.data_extract, List.extract_eq_take_drop]
theorem bs_tail (c : UInt8) (t : Bs) {b : Nat} (hb : t.length + 1 ≤ b) : (bs (c :: t)).extract 1 b = bs t := by
  rw [bs_extract, bs_list]
  congr 1
  simp only [List.drop_succ_cons, List.drop_zero]
  exact List.take_of_length_le (by omega)
theorem u8_is (c d : UInt8) (n : Int) (h : (d.toNat : Int) = n) : ((c.toNat : Int) == n) = (c == d) := by
  rw [Bool.eq_iff_iff]
  simp only [beq_iff_eq]
  constructor
  · intro h2
    exact UInt8.toNat_inj.1 (by omega)
  · rintro rfl
    exact h
theorem is32 (c : UInt8) : ((c.toNat : Int) == 32) = (c == 32) := u8_is c 32 32 rfl
theorem is10 (c : UInt8) : ((c.toNat : Int) == 10) = (c == 10) := u8_is c 10 10 rfl
theorem is40 (c : UInt8) : ((c.toNat : Int) == 40) = (c == 40) := u8_is c 40 40 rfl
theorem is41 (c : UInt8) : ((c.toNat : Int) == 41) = (c == 41) := u8_is c 41 41 rfl
theorem is39 (c : UInt8) : ((c.toNat : Int) == 39) = (c == 39) := u8_is c 39 39 rfl
theorem is0 (c : UInt8) : ((c.toNat : Int) == 0) = (c == 0) := u8_is c 0 0 rfl
theorem skip_cons {c : UInt8} {t : Bs} (h : blank c = true) : skip (c :: t) = skip t := by simp [skip, h]
theorem skip_stop {c : UInt8} {t : Bs} (h : blank c = false) : skip (c :: t) = c :: t := by simp [skip, h]
theorem peek_step {rb : Nat} {l : Bs} {z : Int} {w wr : World} {c : UInt8} {t : Bs} {S : ByteArray} (hR : skip (c :: t) = skip l ∧ Pr rb (c :: t) z wr ∧ Fr (at_ rb) w wr) (hS : S = bs t) (hb : blank c = true) (hl : (c :: t).length ≤ 1500) :
    (∃ m, m.length ≤ 1500 ∧ Hid (skip m = skip l ∧ Pr rb m z (wr.setCell ⟨rb, 0, none⟩ (.string S)) ∧ Fr (at_ rb) w (wr.setCell ⟨rb, 0, none⟩ (.string S)))) ∧ lenOf (wr.setCell ⟨rb, 0, none⟩ (.string S)) rb < lenOf wr rb := by
  have h1 := hR.2.1.put' hS
  refine ⟨⟨t, by simp at hl; omega, (skip_cons hb).symm.trans hR.1, h1, hR.2.2.setCell (p := ⟨rb, 0, none⟩) (.inl rfl) _⟩, ?_⟩
  rw [h1.lenOf, hR.2.1.lenOf]
  simp
set_option maxHeartbeats 400000 in
theorem peek_any (rb : Nat) (l : Bs) (z : Int) (w : World) (h : Pr rb l z w) (hl : l.length ≤ 1500) :
    Calls Tryd.prog 18 #[.pointer (some ⟨rb, 0, none⟩)] w fun e w' => e = .returned (.int .u8 (peekC (skip l)).toNat) ∧ Pr rb (skip l) z w' ∧ Fr (at_ rb) w w' := by
  go_enter Tryd.func18, Tryd.ntmps18
  go_wp2
  go_loopw [] (fun wr => ∃ m : Bs, m.length ≤ 1500 ∧ Hid (skip m = skip l ∧ Pr rb m z wr ∧ Fr (at_ rb) w wr)) (fun wr => lenOf wr rb)
  case atStart => exact ⟨l, hl, rfl, h, Fr.refl _ _⟩
  case round =>
    obtain ⟨m, hm, hR⟩ := hrel
    have c0 := hR.out.2.1.s
    have fz := hR.out.2.1.f0
    have hlt := hR.out.2.1.lt
    clear h
    have hsz := bs_size m
    cases m with
    | nil =>
      have hz : ¬ (0 : Int) < ((bs []).size : Int) := by simp [bs_size]
      go_wp2
      go_ret
      have h1 := hR.out.1
      refine ⟨?_, ?_, hR.out.2.2⟩
      · rw [← h1]; rfl
      · rw [← h1]; exact hR.out.2.1
    | cons c t =>
      have hz' : 0 < (bs (c :: t)).size := by rw [hsz]; simp
      have hz : (0 : Int) < ((bs (c :: t)).size : Int) := by omega
      have hc : (bs (c :: t))[0]'hz' = c := rfl
      have hz1 : (1 : Int) ≤ ((bs (c :: t)).size : Int) := by omega
      have hne : ¬ ((bs (c :: t)).size : Int) = 0 := by omega
      have h32 := is32 c
      have h10 := is10 c
      have h0 := is0 c
      by_cases hb : c == 32
      · rw [hb] at h32
        have hbl := hide (show blank c = true by simp [blank, hb])
        go_wp2
        exact peek_step hR.out (bs_tail c t (Nat.le_refl _)) hbl.out hm
      · have hb0 : (c == 32) = false := by simpa using hb
        rw [hb0] at h32
        by_cases hb2 : c == 10
        · rw [hb2] at h10
          have hbl := hide (show blank c = true by simp [blank, hb2])
          go_wp2
          exact peek_step hR.out (bs_tail c t (Nat.le_refl _)) hbl.out hm
        · have hb3 : (c == 10) = false := by simpa using hb2
          rw [hb3] at h10
          have hbl := hide (show blank c = false by simp [blank, hb0, hb3])
          by_cases hb4 : c == 0
          · rw [hb4] at h0
            go_wp2
            go_ret
            have h1 := (skip_stop (t := t) hbl.out).symm.trans hR.out.1
            refine ⟨?_, ?_, hR.out.2.2⟩
            · rw [← h1]
              have : c = 0 := by simpa using hb4
              simp [peekC, this]
            · rw [← h1]; exact hR.out.2.1
          · have hb5 : (c == 0) = false := by simpa using hb4
            rw [hb5] at h0
            go_wp2
            go_ret
            have h1 := (skip_stop (t := t) hbl.out).symm.trans hR.out.1
            refine ⟨?_, ?_, hR.out.2.2⟩
            · rw [← h1]
              have : ¬ c = 0 := by simpa using hb4
              simp [peekC, this]
            · rw [← h1]; exact hR.out.2.1
set_option maxHeartbeats 400000 in
theorem bad_any (rb : Nat) (l : Bs) (z e : Int) (w : World) (h : Pr rb l z w) :
    Calls Tryd.prog 35 #[.pointer (some ⟨rb, 0, none⟩), .int .i64 e] w fun r w' => r = .returned (.tuple #[]) ∧ Pr rb l (bad z e) w' ∧ Fr (at_ rb) w w' := by
  have c1 := h.e
  have f1 := h.f1
  have hlt := h.lt
  have H := hide h
  clear h
  by_cases hz : z = 0
  · have hb : Hid (bad z e = e) := by rw [hz]; rfl
    go_enter Tryd.func35, Tryd.ntmps35
    go_wp2
    go_end0
    refine ⟨rfl, ?_, (Fr.refl (at_ rb) w).setCell (p := ⟨rb, 1, none⟩) (.inl rfl) _⟩
    rw [hb.out]
    exact H.out.err e
  · have hb : Hid (bad z e = z) := bad_of hz
    go_enter Tryd.func35, Tryd.ntmps35
    go_wp2
    go_end0
    refine ⟨rfl, ?_, Fr.refl _ _⟩
    rw [hb.out]
    exact H.out
theorem peekC_nil : peekC [] = 0 := rfl
theorem peekC_ne {d : UInt8} {t : Bs} : peekC (d :: t) ≠ 0 := by
  unfold peekC; dsimp only; split
  · decide
  · assumption
theorem peekC_is {c d : UInt8} {t : Bs} (hc : c ≠ 0 ∧ c ≠ 1) : (peekC (d :: t) = c) = (d = c) := by
  unfold peekC; dsimp only; split
  · rename_i h; subst h
    exact propext ⟨fun h => absurd h.symm hc.2, fun h => absurd h.symm hc.1⟩
  · rfl
theorem u8_ne {c d : UInt8} (h : c ≠ d) : ((c.toNat : Int) == (d.toNat : Int)) = false := by rw [u8_is c d _ rfl]; simpa using h
set_option maxHeartbeats 400000 in
theorem must_any (rb : Nat) (l : Bs) (z : Int) (c : UInt8) (w : World) (h : Pr rb l z w) (hl : l.length ≤ 1500) (hc : c ≠ 0 ∧ c ≠ 1) :
    Calls Tryd.prog 19 #[.pointer (some ⟨rb, 0, none⟩), .int .u8 c.toNat] w fun r w' => r = .returned (.tuple #[]) ∧ Pr rb (must c l z).l (must c l z).z w' ∧ Fr (at_ rb) w w' := by
  have HP := hide (peek_any rb l z w h hl)
  have hsl := skip_len l
  cases hs : skip l with
  | nil =>
    have e1 : must c l z = ⟨(), [], bad z 8⟩ := by unfold must; rw [hs]
    rw [e1]
    rw [hs, show ((peekC []).toNat : Int) = 0 from rfl] at HP
    have hne : ((0 : Int) == (c.toNat : Int)) = false := u8_ne (c := 0) (fun e => hc.1 e.symm)
    clear h hs e1
    go_enter Tryd.func19, Tryd.ntmps19
    go_wp2_with (first
      | (go_at_call 18; refine HP.out.mono ?_; rintro e w1 ⟨rfl, hp, hf⟩; have HB := hide (bad_any rb [] z 8 w1 hp); have HF := hide hf; clear hp hf)
      | (go_at_call 35; refine HB.out.mono ?_; rintro e w2 ⟨rfl, hp, hf⟩; have HP2 := hide hp; have HF2 := hide hf; clear hp hf))
    all_goals go_end0
    all_goals exact ⟨rfl, HP2.out, HF.out.trans HF2.out⟩
  | cons d t =>
    rw [hs] at HP hsl
    simp at hsl
    by_cases hd : d = c
    · have e1 : must c l z = ⟨(), t, z⟩ := by unfold must; rw [hs]; simp [hd]
      rw [e1]
      subst hd
      have e2 : peekC (d :: t) = d := by rw [peekC_is hc]
      rw [e2] at HP
      have hsz := bs_size (d :: t)
      have hz1 : (1 : Int) ≤ ((bs (d :: t)).size : Int) := by rw [hsz]; simp; omega
      clear h hs e1 e2
      go_enter Tryd.func19, Tryd.ntmps19
      go_wp2_with (first
        | (go_at_call 18; refine HP.out.mono ?_; rintro e w1 ⟨rfl, hp, hf⟩; have c0 := hp.s; have f0 := hp.f0; have hlt := hp.lt; have HP2 := hide hp; have HF := hide hf; clear hp hf))
      all_goals go_end0
      exact ⟨rfl, HP2.out.put' (bs_tail d t (Nat.le_refl _)), HF.out.setCell (p := ⟨rb, 0, none⟩) (.inl rfl) _⟩
    · have e1 : must c l z = ⟨(), d :: t, bad z 2⟩ := by unfold must; rw [hs]; simp [hd]
      rw [e1]
      have e2 : peekC (d :: t) ≠ c := fun e => hd ((peekC_is hc) ▸ e)
      have e3 : peekC (d :: t) ≠ 0 := peekC_ne
      generalize peekC (d :: t) = x at *
      have hne := u8_ne e2
      have hne2 : ((x.toNat : Int) == 0) = false := u8_ne e3
      clear h hs e1 e2 e3 hd
      go_enter Tryd.func19, Tryd.ntmps19
      go_wp2_with (first
        | (go_at_call 18; refine HP.out.mono ?_; rintro e w1 ⟨rfl, hp, hf⟩; have HB := hide (bad_any rb _ z 2 w1 hp); have HF := hide hf; clear hp hf)
        | (go_at_call 35; refine HB.out.mono ?_; rintro e w2 ⟨rfl, hp, hf⟩; have HP2 := hide hp; have HF2 := hide hf; clear hp hf))
      all_goals go_end0
      all_goals exact ⟨rfl, HP2.out, HF.out.trans HF2.out⟩
end Go.Proofs.YtkmdamljhagogaaDoor
