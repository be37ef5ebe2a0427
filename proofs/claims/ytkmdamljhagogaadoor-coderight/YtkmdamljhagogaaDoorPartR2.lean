/- Until. -/
import Derived.Test.YtkmdamljhagogaaDoorPartR1
section
/- Piece by piece up to a bracket. -/
namespace Go.Proofs.YtkmdamljhagogaaDoor
open Go.RowKit

/-- How far the reader at rb is from its end: 0 where something is wrong. -/
def leftOf (w : World) (rb : Nat) : Nat :=
  match w.cell? ⟨rb, 1, none⟩ with
  | some (.int .i64 z) => if z = 0 then lenOf w rb + 1 else 0
  | _ => 0
theorem Pr.leftOf0 {rb : Nat} {l : Bs} {w : World} (h : Pr rb l 0 w) : leftOf w rb = l.length + 1 := by
  simp [leftOf, h.e, h.lenOf]
theorem Pr.leftOf1 {rb : Nat} {l : Bs} {z : Int} {w : World} (h : Pr rb l z w) (hz : z ≠ 0) : leftOf w rb = 0 := by
  simp [leftOf, h.e, hz]
def Rd.after {α : Type} (r : Rd (List α)) (ac : List α) : Rd (List α) := ⟨ac ++ r.v, r.l, r.z⟩
theorem until_bad {α : Type} (one : Reader α) {m : Nat} (hm : 0 < m) (l : Bs) {z : Int} (hz : z ≠ 0) : until_ one m l z = ⟨[], (must 41 l z).l, (must 41 l z).z⟩ := by
  obtain ⟨k, rfl⟩ : ∃ k, m = k + 1 := ⟨m - 1, by omega⟩
  unfold until_
  rw [if_neg hz]
theorem until_end {α : Type} (one : Reader α) {m : Nat} (hm : 0 < m) {l t : Bs} (hs : skip l = 41 :: t) : until_ one m l 0 = ⟨[], t, 0⟩ := by
  obtain ⟨k, rfl⟩ : ∃ k, m = k + 1 := ⟨m - 1, by omega⟩
  unfold until_
  rw [if_pos rfl, hs]
  simp
theorem until_more {α : Type} (one : Reader α) (k : Nat) {l : Bs} (hs : (skip l).head? ≠ some 41) : until_ one (k + 1) l 0 = (until_ one k (one (skip l) 0).l (one (skip l) 0).z).after [(one (skip l) 0).v] := by
  rw [until_]
  simp only [if_true, if_neg hs]
  rfl
theorem after_after {α : Type} (r : Rd (List α)) (a b : List α) : (r.after b).after a = r.after (a ++ b) := by
  simp [Rd.after]
theorem after_nil {α : Type} (r : Rd (List α)) : r.after [] = r := by
  cases r; simp [Rd.after]
theorem must_skip (c : UInt8) (l : Bs) (z : Int) : must c (skip l) z = must c l z := by unfold must; rw [skip_skip]
theorem peek41 {l : Bs} (h : l.head? ≠ some 41) : ¬ ((peekC l).toNat : Int) = 41 := by
  intro e
  have e1 : (peekC l).toNat = (41 : UInt8).toNat := by
    have : ((41 : UInt8).toNat : Int) = 41 := rfl
    omega
  have e2 := UInt8.toNat_inj.1 e1
  cases l with
  | nil => cases e2
  | cons c t =>
    rw [peekC_is (by decide)] at e2
    subst e2
    exact h rfl
set_option maxHeartbeats 400000 in
theorem until_E {α : Type} (rb : Nat) (c0 c1 c2 : Value) (one : Reader α) (J : List α → Bs → Int → World → Prop) (hless : Less one) (hsmall : Small one)
    (hJ : ∀ acc l z w, J acc l z w → Pr rb l z w ∧ l.length ≤ 1500)
    (hm : ∀ acc l l' z z' w w', J acc l z w → Pr rb l' z' w' → l'.length ≤ l.length → (z' = 0 → z = 0) → Fr (at_ rb) w w' → J acc l' z' w')
    (hcl : ∀ acc l w, J acc l 0 w → Calls Tryd.prog 58 #[c0, c1, c2] w fun e w' => e = .returned (.tuple #[]) ∧ J (acc ++ [(one l 0).v]) (one l 0).l (one l 0).z w')
    (n : Nat) (acc : List α) (l : Bs) (z : Int) (w : World) (h : J acc l z w) (hn0 : 0 < n) (hn : z = 0 → l.length + 1 < n) :
    Calls Tryd.prog 21 #[.pointer (some ⟨rb, 0, none⟩), .func (.func 58) #[] #[c0, c1, c2]] w fun e w' => e = .returned (.tuple #[]) ∧ J (acc ++ (until_ one n l z).v) (until_ one n l z).l (until_ one n l z).z w' := by
  have HJ := hide hJ
  have HM := hide hm
  have HCL := hide hcl
  have H0 := hide h
  have HLE := hide hless
  have HSM := hide hsmall
  clear hJ hm hcl h hless hsmall
  go_enter Tryd.func21, Tryd.ntmps21
  go_wp2
  go_loopw [] (fun wr => ∃ (m : Nat) (ac : List α) (q : Bs) (zq : Int), 0 < m ∧ Hid (zq = 0 → q.length + 1 < m) ∧ Hid (J (acc ++ ac) q zq wr ∧ until_ one n l z = (until_ one m q zq).after ac)) (fun wr => leftOf wr rb)
  case atStart =>
    refine ⟨n, [], l, z, hn0, hn, ?_, (after_nil _).symm⟩
    rw [List.append_nil]; exact H0.out
  case round =>
    obtain ⟨m, ac, q, zq, hm0, hm1, hR⟩ := hrel
    obtain ⟨hP, hql⟩ := HJ.out _ _ _ _ hR.out.1
    have c1 := hP.e
    have hlt := hP.lt
    by_cases hz : zq = 0
    · subst hz
      have HPK := hide (peek_any rb q 0 wr hP hql)
      have hlen := skip_len q
      by_cases hs : (skip q).head? = some 41
      · obtain ⟨t, ht⟩ : ∃ t, skip q = 41 :: t := by
          cases hk : skip q with
          | nil => rw [hk] at hs; simp at hs
          | cons c t => rw [hk] at hs; simp at hs; subst hs; exact ⟨t, rfl⟩
        have HE := hide (until_end one hm0 ht)
        have e2 : ((peekC (skip q)).toNat : Int) = 41 := by rw [ht]; rfl
        have e3 : must 41 (skip q) 0 = ⟨(), t, 0⟩ := by rw [must_skip]; unfold must; rw [ht]; simp
        rw [e2] at HPK
        have HE3 := hide e3
        have htl : t.length ≤ q.length := by rw [ht] at hlen; simp at hlen; omega
        clear hP hs e2 e3
        go_wp2_with (first
          | (go_at_call 18; refine HPK.out.mono ?_; rintro e w1 ⟨rfl, hp, hf⟩; have HMU := hide (must_any rb _ 0 41 w1 hp (by omega) (by decide)); have HF1 := hide hf; clear hp hf)
          | (go_at_call 19; refine HMU.out.mono ?_; rintro e w2 ⟨rfl, hp, hf⟩; have HP2 := hide hp; have HF2 := hide hf; clear hp hf))
        go_end0
        refine ⟨rfl, ?_⟩
        rw [hR.out.2, HE.out]
        have hp := HP2.out
        rw [HE3.out] at hp
        simp only [Rd.after, List.append_nil]
        exact HM.out _ _ _ _ _ _ _ hR.out.1 hp htl (fun _ => rfl) (HF1.out.trans HF2.out)
      · obtain ⟨m, rfl⟩ : ∃ k, m = k + 1 := ⟨m - 1, by omega⟩
        have HE := hide (until_more one m hs)
        have e2 := peek41 hs
        have b2 := ne_bne e2
        clear hP hs
        go_wp2_with (first
          | (go_at_call 18; refine HPK.out.mono ?_; rintro e w1 ⟨rfl, hp, hf⟩; have HC := hide (HCL.out _ _ _ (HM.out _ _ _ _ _ _ _ hR.out.1 hp hlen (fun _ => rfl) hf)); clear hp hf)
          | (go_at_call 58; refine HC.out.mono ?_; rintro e w2 ⟨rfl, hj⟩; have HJ2 := hide hj; clear hj))
        have hP2 := (HJ.out _ _ _ _ HJ2.out).1
        have hm2 := hm1.out trivial
        refine ⟨⟨m, ac ++ [(one (skip q) 0).v], (one (skip q) 0).l, (one (skip q) 0).z, by omega, fun hz => ?_, ?_, ?_⟩, ?_⟩
        · have := HLE.out (skip q) hz
          omega
        · rw [← List.append_assoc]; exact HJ2.out
        · rw [hR.out.2, HE.out, after_after]
        · rw [(HJ.out _ _ _ _ hR.out.1).1.leftOf0]
          by_cases hz : (one (skip q) 0).z = 0
          · have := HLE.out (skip q) hz
            rw [hz] at hP2
            rw [hP2.leftOf0]
            omega
          · rw [hP2.leftOf1 hz]
            omega
    · have HE := hide (until_bad one hm0 q hz)
      have HMU := hide (must_any rb q zq 41 wr hP hql (by decide))
      clear hP
      go_wp2_with (first
        | (go_at_call 19; refine HMU.out.mono ?_; rintro e w2 ⟨rfl, hp, hf⟩; have HP2 := hide hp; have HF2 := hide hf; clear hp hf))
      go_end0
      refine ⟨rfl, ?_⟩
      rw [hR.out.2, HE.out]
      simp only [Rd.after, List.append_nil]
      exact HM.out _ _ _ _ _ _ _ hR.out.1 HP2.out (must_small 41 _ _) (fun h => absurd ((must_keeps 41 q zq hz).symm.trans h) hz) HF2.out
set_option maxHeartbeats 400000 in
theorem until_S {α : Type} (rb : Nat) (c0 c1 c2 : Value) (one : Reader α) (J : List α → Bs → Int → World → Prop) (hless : Less one) (hsmall : Small one)
    (hJ : ∀ acc l z w, J acc l z w → Pr rb l z w ∧ l.length ≤ 1500)
    (hm : ∀ acc l l' z z' w w', J acc l z w → Pr rb l' z' w' → l'.length ≤ l.length → (z' = 0 → z = 0) → Fr (at_ rb) w w' → J acc l' z' w')
    (hcl : ∀ acc l w, J acc l 0 w → Calls Tryd.prog 37 #[c0, c1, c2] w fun e w' => e = .returned (.tuple #[]) ∧ J (acc ++ [(one l 0).v]) (one l 0).l (one l 0).z w')
    (n : Nat) (acc : List α) (l : Bs) (z : Int) (w : World) (h : J acc l z w) (hn0 : 0 < n) (hn : z = 0 → l.length + 1 < n) :
    Calls Tryd.prog 21 #[.pointer (some ⟨rb, 0, none⟩), .func (.func 37) #[] #[c0, c1, c2]] w fun e w' => e = .returned (.tuple #[]) ∧ J (acc ++ (until_ one n l z).v) (until_ one n l z).l (until_ one n l z).z w' := by
  have HJ := hide hJ
  have HM := hide hm
  have HCL := hide hcl
  have H0 := hide h
  have HLE := hide hless
  have HSM := hide hsmall
  clear hJ hm hcl h hless hsmall
  go_enter Tryd.func21, Tryd.ntmps21
  go_wp2
  go_loopw [] (fun wr => ∃ (m : Nat) (ac : List α) (q : Bs) (zq : Int), 0 < m ∧ Hid (zq = 0 → q.length + 1 < m) ∧ Hid (J (acc ++ ac) q zq wr ∧ until_ one n l z = (until_ one m q zq).after ac)) (fun wr => leftOf wr rb)
  case atStart =>
    refine ⟨n, [], l, z, hn0, hn, ?_, (after_nil _).symm⟩
    rw [List.append_nil]; exact H0.out
  case round =>
    obtain ⟨m, ac, q, zq, hm0, hm1, hR⟩ := hrel
    obtain ⟨hP, hql⟩ := HJ.out _ _ _ _ hR.out.1
    have c1 := hP.e
    have hlt := hP.lt
    by_cases hz : zq = 0
    · subst hz
      have HPK := hide (peek_any rb q 0 wr hP hql)
      have hlen := skip_len q
      by_cases hs : (skip q).head? = some 41
      · obtain ⟨t, ht⟩ : ∃ t, skip q = 41 :: t := by
          cases hk : skip q with
          | nil => rw [hk] at hs; simp at hs
          | cons c t => rw [hk] at hs; simp at hs; subst hs; exact ⟨t, rfl⟩
        have HE := hide (until_end one hm0 ht)
        have e2 : ((peekC (skip q)).toNat : Int) = 41 := by rw [ht]; rfl
        have e3 : must 41 (skip q) 0 = ⟨(), t, 0⟩ := by rw [must_skip]; unfold must; rw [ht]; simp
        rw [e2] at HPK
        have HE3 := hide e3
        have htl : t.length ≤ q.length := by rw [ht] at hlen; simp at hlen; omega
        clear hP hs e2 e3
        go_wp2_with (first
          | (go_at_call 18; refine HPK.out.mono ?_; rintro e w1 ⟨rfl, hp, hf⟩; have HMU := hide (must_any rb _ 0 41 w1 hp (by omega) (by decide)); have HF1 := hide hf; clear hp hf)
          | (go_at_call 19; refine HMU.out.mono ?_; rintro e w2 ⟨rfl, hp, hf⟩; have HP2 := hide hp; have HF2 := hide hf; clear hp hf))
        go_end0
        refine ⟨rfl, ?_⟩
        rw [hR.out.2, HE.out]
        have hp := HP2.out
        rw [HE3.out] at hp
        simp only [Rd.after, List.append_nil]
        exact HM.out _ _ _ _ _ _ _ hR.out.1 hp htl (fun _ => rfl) (HF1.out.trans HF2.out)
      · obtain ⟨m, rfl⟩ : ∃ k, m = k + 1 := ⟨m - 1, by omega⟩
        have HE := hide (until_more one m hs)
        have e2 := peek41 hs
        have b2 := ne_bne e2
        clear hP hs
        go_wp2_with (first
          | (go_at_call 18; refine HPK.out.mono ?_; rintro e w1 ⟨rfl, hp, hf⟩; have HC := hide (HCL.out _ _ _ (HM.out _ _ _ _ _ _ _ hR.out.1 hp hlen (fun _ => rfl) hf)); clear hp hf)
          | (go_at_call 37; refine HC.out.mono ?_; rintro e w2 ⟨rfl, hj⟩; have HJ2 := hide hj; clear hj))
        have hP2 := (HJ.out _ _ _ _ HJ2.out).1
        have hm2 := hm1.out trivial
        refine ⟨⟨m, ac ++ [(one (skip q) 0).v], (one (skip q) 0).l, (one (skip q) 0).z, by omega, fun hz => ?_, ?_, ?_⟩, ?_⟩
        · have := HLE.out (skip q) hz
          omega
        · rw [← List.append_assoc]; exact HJ2.out
        · rw [hR.out.2, HE.out, after_after]
        · rw [(HJ.out _ _ _ _ hR.out.1).1.leftOf0]
          by_cases hz : (one (skip q) 0).z = 0
          · have := HLE.out (skip q) hz
            rw [hz] at hP2
            rw [hP2.leftOf0]
            omega
          · rw [hP2.leftOf1 hz]
            omega
    · have HE := hide (until_bad one hm0 q hz)
      have HMU := hide (must_any rb q zq 41 wr hP hql (by decide))
      clear hP
      go_wp2_with (first
        | (go_at_call 19; refine HMU.out.mono ?_; rintro e w2 ⟨rfl, hp, hf⟩; have HP2 := hide hp; have HF2 := hide hf; clear hp hf))
      go_end0
      refine ⟨rfl, ?_⟩
      rw [hR.out.2, HE.out]
      simp only [Rd.after, List.append_nil]
      exact HM.out _ _ _ _ _ _ _ hR.out.1 HP2.out (must_small 41 _ _) (fun h => absurd ((must_keeps 41 q zq hz).symm.trans h) hz) HF2.out
set_option maxHeartbeats 400000 in
theorem until_P {α : Type} (rb : Nat) (c0 c1 : Value) (one : Reader α) (J : List α → Bs → Int → World → Prop) (hless : Less one) (hsmall : Small one)
    (hJ : ∀ acc l z w, J acc l z w → Pr rb l z w ∧ l.length ≤ 1500)
    (hm : ∀ acc l l' z z' w w', J acc l z w → Pr rb l' z' w' → l'.length ≤ l.length → (z' = 0 → z = 0) → Fr (at_ rb) w w' → J acc l' z' w')
    (hcl : ∀ acc l w, J acc l 0 w → Calls Tryd.prog 22 #[c0, c1] w fun e w' => e = .returned (.tuple #[]) ∧ J (acc ++ [(one l 0).v]) (one l 0).l (one l 0).z w')
    (n : Nat) (acc : List α) (l : Bs) (z : Int) (w : World) (h : J acc l z w) (hn0 : 0 < n) (hn : z = 0 → l.length + 1 < n) :
    Calls Tryd.prog 21 #[.pointer (some ⟨rb, 0, none⟩), .func (.func 22) #[] #[c0, c1]] w fun e w' => e = .returned (.tuple #[]) ∧ J (acc ++ (until_ one n l z).v) (until_ one n l z).l (until_ one n l z).z w' := by
  have HJ := hide hJ
  have HM := hide hm
  have HCL := hide hcl
  have H0 := hide h
  have HLE := hide hless
  have HSM := hide hsmall
  clear hJ hm hcl h hless hsmall
  go_enter Tryd.func21, Tryd.ntmps21
  go_wp2
  go_loopw [] (fun wr => ∃ (m : Nat) (ac : List α) (q : Bs) (zq : Int), 0 < m ∧ Hid (zq = 0 → q.length + 1 < m) ∧ Hid (J (acc ++ ac) q zq wr ∧ until_ one n l z = (until_ one m q zq).after ac)) (fun wr => leftOf wr rb)
  case atStart =>
    refine ⟨n, [], l, z, hn0, hn, ?_, (after_nil _).symm⟩
    rw [List.append_nil]; exact H0.out
  case round =>
    obtain ⟨m, ac, q, zq, hm0, hm1, hR⟩ := hrel
    obtain ⟨hP, hql⟩ := HJ.out _ _ _ _ hR.out.1
    have c1 := hP.e
    have hlt := hP.lt
    by_cases hz : zq = 0
    · subst hz
      have HPK := hide (peek_any rb q 0 wr hP hql)
      have hlen := skip_len q
      by_cases hs : (skip q).head? = some 41
      · obtain ⟨t, ht⟩ : ∃ t, skip q = 41 :: t := by
          cases hk : skip q with
          | nil => rw [hk] at hs; simp at hs
          | cons c t => rw [hk] at hs; simp at hs; subst hs; exact ⟨t, rfl⟩
        have HE := hide (until_end one hm0 ht)
        have e2 : ((peekC (skip q)).toNat : Int) = 41 := by rw [ht]; rfl
        have e3 : must 41 (skip q) 0 = ⟨(), t, 0⟩ := by rw [must_skip]; unfold must; rw [ht]; simp
        rw [e2] at HPK
        have HE3 := hide e3
        have htl : t.length ≤ q.length := by rw [ht] at hlen; simp at hlen; omega
        clear hP hs e2 e3
        go_wp2_with (first
          | (go_at_call 18; refine HPK.out.mono ?_; rintro e w1 ⟨rfl, hp, hf⟩; have HMU := hide (must_any rb _ 0 41 w1 hp (by omega) (by decide)); have HF1 := hide hf; clear hp hf)
          | (go_at_call 19; refine HMU.out.mono ?_; rintro e w2 ⟨rfl, hp, hf⟩; have HP2 := hide hp; have HF2 := hide hf; clear hp hf))
        go_end0
        refine ⟨rfl, ?_⟩
        rw [hR.out.2, HE.out]
        have hp := HP2.out
        rw [HE3.out] at hp
        simp only [Rd.after, List.append_nil]
        exact HM.out _ _ _ _ _ _ _ hR.out.1 hp htl (fun _ => rfl) (HF1.out.trans HF2.out)
      · obtain ⟨m, rfl⟩ : ∃ k, m = k + 1 := ⟨m - 1, by omega⟩
        have HE := hide (until_more one m hs)
        have e2 := peek41 hs
        have b2 := ne_bne e2
        clear hP hs
        go_wp2_with (first
          | (go_at_call 18; refine HPK.out.mono ?_; rintro e w1 ⟨rfl, hp, hf⟩; have HC := hide (HCL.out _ _ _ (HM.out _ _ _ _ _ _ _ hR.out.1 hp hlen (fun _ => rfl) hf)); clear hp hf)
          | (go_at_call 22; refine HC.out.mono ?_; rintro e w2 ⟨rfl, hj⟩; have HJ2 := hide hj; clear hj))
        have hP2 := (HJ.out _ _ _ _ HJ2.out).1
        have hm2 := hm1.out trivial
        refine ⟨⟨m, ac ++ [(one (skip q) 0).v], (one (skip q) 0).l, (one (skip q) 0).z, by omega, fun hz => ?_, ?_, ?_⟩, ?_⟩
        · have := HLE.out (skip q) hz
          omega
        · rw [← List.append_assoc]; exact HJ2.out
        · rw [hR.out.2, HE.out, after_after]
        · rw [(HJ.out _ _ _ _ hR.out.1).1.leftOf0]
          by_cases hz : (one (skip q) 0).z = 0
          · have := HLE.out (skip q) hz
            rw [hz] at hP2
            rw [hP2.leftOf0]
            omega
          · rw [hP2.leftOf1 hz]
            omega
    · have HE := hide (until_bad one hm0 q hz)
      have HMU := hide (must_any rb q zq 41 wr hP hql (by decide))
      clear hP
      go_wp2_with (first
        | (go_at_call 19; refine HMU.out.mono ?_; rintro e w2 ⟨rfl, hp, hf⟩; have HP2 := hide hp; have HF2 := hide hf; clear hp hf))
      go_end0
      refine ⟨rfl, ?_⟩
      rw [hR.out.2, HE.out]
      simp only [Rd.after, List.append_nil]
      exact HM.out _ _ _ _ _ _ _ hR.out.1 HP2.out (must_small 41 _ _) (fun h => absurd ((must_keeps 41 q zq hz).symm.trans h) hz) HF2.out
end Go.Proofs.YtkmdamljhagogaaDoor
end
