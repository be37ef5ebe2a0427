/- Package verify: what a frame waits for; what is wrong with values. -/
import Derived.Test.YtgocmpooppejdaaFCounts
set_option maxHeartbeats 0
set_option maxRecDepth 100000
namespace Go.Proofs.Ytgocmpooppejdaa
open Go Go.RowKit
theorem put2 {w : World} {b : Nat} {u0 u1 : Value} (v0 v1 : Value) (m0 : w.cell? ⟨b, 0, none⟩ = some u0) (m1 : w.cell? ⟨b, 1, none⟩ = some u1) :
    ∃ w5, (w.setCell ⟨b, 0, none⟩ v0).setCell ⟨b, 1, none⟩ v1 = w5 ∧ w5.cell? ⟨b, 0, none⟩ = some v0 ∧ w5.cell? ⟨b, 1, none⟩ = some v1 ∧ Fr (fun k => k = b) w w5 := by
  have h1 := World.cell?_setCell_same w ⟨b, 0, none⟩ v0 m0
  have h2 : (w.setCell ⟨b, 0, none⟩ v0).cell? ⟨b, 1, none⟩ = some u1 := (World.cell?_setCell_other w ⟨b, 0, none⟩ ⟨b, 1, none⟩ _ (by simp)).trans m1
  refine ⟨_, rfl, ?_, World.cell?_setCell_same _ _ _ h2, ((Fr.refl (fun k => k = b) w).setCell (p := ⟨b, 0, none⟩) (.inl rfl) _).setCell (p := ⟨b, 1, none⟩) (.inl rfl) _⟩
  exact (World.cell?_setCell_other _ ⟨b, 1, none⟩ ⟨b, 0, none⟩ _ (by simp)).trans h1
theorem waits_any (a : Ag) (sc sw sf sh : Slc) (k : Nat) (away : Bool) (rs : List RawM) (w : World) (hfr : Sl encM 4 w sf.v rs) (he : Each (FmOk w) rs a.fr) (hk : k ≤ 1000000) :
    Calls Try.prog 16 #[.agg (agC a sc sw sf sh), .int .i64 (k : Nat), .bool away] w fun e w' => e = .returned (.agg #[.int .i64 (waitC a k away).1, .int .i64 (waitC a k away).2]) ∧ Fr nothing w w' := by
  obtain ⟨hn, hm⟩ := sl_len hfr
  rw [he.1] at hn hm
  have hd : waitC a k away = if k + 1 < a.fr.length then (17, (a.fr.getD (k + 1) fm0).fn) else if away then (13, 0) else (0, 0) := rfl
  generalize waitC a k away = R at hd ⊢
  obtain ⟨sfa, sfn, sfc⟩ := sf
  simp only at hn
  subst hn
  have hN : IntKind.i64.wrap ((k : Int) + 1) = (k : Int) + 1 := wrap_in _ (by omega) (by omega)
  have hN' : ((k + 1 : Nat) : Int) = (k : Int) + 1 := by omega
  have FA : Fr nothing w (w.alloc (.cells (agC a sc sw ⟨sfa, a.fr.length, sfc⟩ sh) 31)) := (Fr.refl _ _).alloc _
  obtain ⟨w1, hw1⟩ : ∃ x, x = w.alloc (.cells (agC a sc sw ⟨sfa, a.fr.length, sfc⟩ sh) 31) := ⟨_, rfl⟩
  rw [← hw1] at FA
  have FB : Fr nothing w1 (w1.alloc (.cells #[.int .i64 0, .int .i64 0] 58)) := (Fr.refl _ _).alloc _
  have mb := made_cells (Fr.refl nothing (w1.alloc (.cells #[.int .i64 0, .int .i64 0] 58))) id
  obtain ⟨w2, hw2⟩ : ∃ x, x = w1.alloc (.cells #[.int .i64 0, .int .i64 0] 58) := ⟨_, rfl⟩
  rw [← hw2] at FB mb
  have z1 : w1.heap.size = w.heap.size + 1 := by rw [hw1]; simp
  have ma := made_cells (w := w) (cs := agC a sc sw ⟨sfa, a.fr.length, sfc⟩ sh) (t := 31) (w1 := w2) (S := nothing) (by rw [← hw1]; exact FB) id
  have a4 := ma.1 4
  have al := ma.2.2
  rw [z1] at mb
  have b0 := mb.1 0
  have b1 := mb.1 1
  have bz := mb.2.1
  have bl := mb.2.2
  have hF2 := FA.trans FB
  have e1' := hw1.symm
  have e2' := hw2.symm
  have HFR := hide (hfr.fr hF2 (fun _ _ => id))
  have HE := hide he
  have hnb : ¬ w.heap.size = w.heap.size + 1 := by omega
  have HPUT : Hid (∀ v0 v1, ∃ w5, (w2.setCell ⟨w.heap.size + 1, 0, none⟩ v0).setCell ⟨w.heap.size + 1, 1, none⟩ v1 = w5 ∧ w5.cell? ⟨w.heap.size + 1, 0, none⟩ = some v0 ∧ w5.cell? ⟨w.heap.size + 1, 1, none⟩ = some v1 ∧ Fr nothing w w5) := fun v0 v1 => by
    obtain ⟨w5, x1, x2, x3, x4⟩ := put2 v0 v1 b0 b1
    exact ⟨w5, x1, x2, x3, hF2.then x4 (fun j hj e => by omega)⟩
  clear FA FB ma mb hw1 hw2 hfr he hF2 hm
  by_cases hlt : k + 1 < a.fr.length
  · rw [if_pos hlt] at hd
    have hx : a.fr[k + 1]? = some a.fr[k + 1] := List.getElem?_eq_getElem hlt
    have hg : a.fr.getD (k + 1) fm0 = a.fr[k + 1] := by simp [List.getD, hx]
    rw [hg] at hd
    have hr : rs[k + 1]? = some (rs[k + 1]'(by rw [HE.out.1]; exact hlt)) := List.getElem?_eq_getElem _
    generalize a.fr[k + 1] = f at hx hd
    generalize rs[k + 1]'(by rw [HE.out.1]; exact hlt) = r at hr
    have hok := HE.out.2 _ r f hr hx
    obtain ⟨g, o, e1, dg, u0, u1, u2, u3⟩ := sl_elemM (s := ⟨sfa, a.fr.length, sfc⟩) HFR.out hr
    simp only at e1
    subst e1
    rw [hok.fn] at u0
    subst hd
    obtain ⟨w5, x1, x2, x3, x4⟩ := HPUT.out (.int .i64 17) (.int .i64 f.fn)
    have HX := hide (And.intro x2 (And.intro x3 x4))
    have hlt' : (k : Int) + 1 < (a.fr.length : Int) := by omega
    clear x2 x3 x4 u1 u2 u3 hx hr hg hok HPUT
    go_enter Try.func16, Try.ntmps16
    go_wp2
    obtain ⟨x2, x3, x4⟩ := HX.out
    try rw [x1]
    exact bodyPost_ret (v := .agg #[.int .i64 17, .int .i64 f.fn]) (by simp [results, Try.results16, go_sem, x2, x3]) rfl ⟨rfl, x4⟩
  · rw [if_neg hlt] at hd
    have hlt' : ¬ (k : Int) + 1 < (a.fr.length : Int) := by omega
    cases away with
    | true =>
      replace hd : R = (13, 0) := hd
      subst hd
      obtain ⟨w5, x1, x2, x3, x4⟩ := HPUT.out (.int .i64 13) (.int .i64 0)
      have HX := hide (And.intro x2 (And.intro x3 x4))
      clear x2 x3 x4 HPUT
      go_enter Try.func16, Try.ntmps16
      go_wp2
      obtain ⟨x2, x3, x4⟩ := HX.out
      try rw [x1]
      exact bodyPost_ret (v := .agg #[.int .i64 13, .int .i64 0]) (by simp [results, Try.results16, go_sem, x2, x3]) rfl ⟨rfl, x4⟩
    | false =>
      replace hd : R = (0, 0) := hd
      subst hd
      obtain ⟨w5, x1, x2, x3, x4⟩ := HPUT.out (.int .i64 0) (.int .i64 0)
      have HX := hide (And.intro x2 (And.intro x3 x4))
      clear x2 x3 x4 HPUT
      go_enter Try.func16, Try.ntmps16
      go_wp2
      obtain ⟨x2, x3, x4⟩ := HX.out
      try rw [x1]
      exact bodyPost_ret (v := .agg #[.int .i64 0, .int .i64 0]) (by simp [results, Try.results16, go_sem, x2, x3]) rfl ⟨rfl, x4⟩
/-- What is wrong with values. -/
theorem wrongs_any (l : List Val) (s : Slc) (ab n : Nat) (ha : Option Addr) (hc : Nat) (w : World) (hs : Sl encV 3 w s.v l) (hw : ∀ v ∈ l, WfV v) (hb : w.cell? ⟨ab, 5, none⟩ = some (.slice ha n hc)) :
    Calls Try.prog 13 #[.slice s.a s.n s.c, .pointer (some ⟨ab, 0, none⟩)] w fun e w' => e = .returned (.int .i64 (firstE (wrongV n) l)) ∧ Fr nothing w w' := by
  obtain ⟨hn, hm⟩ := sl_len hs
  obtain ⟨sa, sn, sc⟩ := s
  simp only at hn
  subst hn
  have HS := hide hs
  have HW := hide hw
  have hal := lt_of_cell hb
  have HB := hide (And.intro hb hal)
  obtain ⟨R, hR⟩ : ∃ R, firstE (wrongV n) l = R := ⟨_, rfl⟩
  rw [hR]
  have HR := hide hR
  clear hs hw hb hal hR
  go_enter Try.func13, Try.ntmps13
  go_wp2
  go_loopw [9, 5, 6] (fun i _ _ wv => ∃ (j : Nat), j ≤ l.length ∧ i = .int .i64 j ∧ Hid (Fr nothing w wv ∧ firstE (wrongV n) (l.drop j) = firstE (wrongV n) l)) (fun i _ _ _ => l.length - (intOf i).toNat)
  case atStart => exact ⟨0, Nat.zero_le _, rfl, Fr.refl _ _, rfl⟩
  case round =>
    obtain ⟨j, hj, rfl, hRj⟩ := hrel
    obtain ⟨hf, hej⟩ := hRj.out
    by_cases hjl : j < l.length
    · have hx : l[j]? = some l[j] := List.getElem?_eq_getElem hjl
      have hxm : l[j] ∈ l := List.getElem_mem hjl
      have hst := firstE_drop (wrongV n) l hx
      generalize l[j] = v at hx hxm hst
      have hwf := HW.out v hxm
      obtain ⟨g, o, e1, dg, u0, u1, u2⟩ := sl_elemV (s := ⟨sa, l.length, sc⟩) HS.out hx
      simp only at e1
      subst e1
      have dg' := Nat.lt_of_lt_of_le dg hf.size
      rw [← hf.cell (p := ⟨g, _, none⟩) dg id] at u0 u1 u2
      have b5 := (hf.cell (p := ⟨ab, 5, none⟩) HB.out.2 id).trans HB.out.1
      have bl := Nat.lt_of_lt_of_le HB.out.2 hf.size
      rw [hej] at hst
      have hFA : Fr nothing w (wr.alloc (.cells #[.int .i64 v.k, .int .i64 v.n, .string (bs v.t)] 51)) := hf.alloc _
      have HFA := hide hFA
      have HC := hide (fun w3 => cwrong_any v n w3 hwf.t)
      obtain ⟨er, her⟩ : ∃ er, wrongV n v = er := ⟨_, rfl⟩
      rw [her] at hst HC
      have HST := hide hst
      clear hx hxm hst hwf hf hej hRj hFA her
      by_cases h0 : er = 0
      · subst h0
        have HE : Hid (firstE (wrongV n) (l.drop (j + 1)) = firstE (wrongV n) l) := by
          have := HST.out
          rw [if_neg (by simp)] at this
          exact this.symm
        go_wp2_with (go_at_call 14; refine (HC.out _).mono ?_; rintro e w4 ⟨rfl, hf4⟩; have HF4 := hide (HFA.out.trans hf4); clear hf4)
        go_roundw
        case rel => exact ⟨j + 1, by omega, by go_num, HF4.out, HE.out⟩
        case measure => simp [intOf]; omega
      · have h0b : (er != 0) = true := by simpa using h0
        have HRR : Hid (R = er) := by
          have := HST.out
          rw [if_pos h0] at this
          exact HR.out.symm.trans this
        go_wp2_with (go_at_call 14; refine (HC.out _).mono ?_; rintro e w4 ⟨rfl, hf4⟩; have HF4 := hide (HFA.out.trans hf4); clear hf4)
        go_ret
        exact ⟨by rw [HRR.out]; rfl, HF4.out⟩
    · have hR0 : R = 0 := by rw [← HR.out, ← hej]; exact firstE_end _ _ (by omega)
      have HF := hide hf
      subst hR0
      clear hRj hf hej
      go_wp2_with fail
      go_ret
      exact ⟨rfl, HF.out⟩
end Go.Proofs.Ytgocmpooppejdaa
