/- What is numbered anew shows the same, is right, and numbered anew again is as it is. -/
import Derived.Test.YtcemfgknnpjlhaaDoorMoved
namespace Go.Proofs.YtcemfgknnpjlhaaDoor
open Go.RowKit Go.Ws

theorem canonC_length (h : List Cel) (l : List Val) : (canonC h l).length = (ordL h l).length := by simp [canonC]
theorem canonC_le (h : List Cel) (l : List Val) : (canonC h l).length ≤ h.length := by
  rw [canonC_length]; exact (ordL_done h l).1.le
theorem canonV_length (h : List Cel) (l : List Val) : (canonV h l).length = l.length := by simp [canonV]
theorem cellAt_canonC {h : List Cel} {l : List Val} {i : Nat} (hi : i ∈ ordL h l) : cellAt (canonC h l) ((ordL h l).idxOf i) = renC h (ordL h l) i := by
  have hl := List.idxOf_lt_length_of_mem hi
  unfold cellAt canonC
  rw [List.getD_eq_getElem?_getD, List.getElem?_map, List.getElem?_eq_getElem hl, List.getElem_idxOf hl]
  rfl
theorem fits_ord {h : List Cel} {l : List Val} {m : Nat} {v : Val} (hr : RightV h.length v) (hm : inR h.length v = true → v.n.toNat ∈ ordL h l) : Fits h.length m (· ∈ ordL h l) v :=
  ⟨hm, (fits_all hr).2⟩
theorem anew_sim {h : List Cel} (l : List Val) (hr : ∀ c ∈ h, RightV h.length c.l ∧ RightV h.length c.r) : Sim h (canonC h l) (fun i => (ordL h l).idxOf i) (· ∈ ordL h l) where
  lt := fun i hi => ⟨(ordL_done h l).1.2 i hi, by rw [canonC_length]; exact List.idxOf_lt_length_of_mem hi⟩
  inj := fun i j hi hj e => by
    have h1 := List.getElem_idxOf (List.idxOf_lt_length_of_mem hi)
    have h2 := List.getElem_idxOf (List.idxOf_lt_length_of_mem hj)
    rw [← h1, ← h2]
    congr 1
  cell := fun i hi => cellAt_canonC hi
  fits := fun i hi => by
    have hm := hr _ (cellAt_mem ((ordL_done h l).1.2 i hi))
    have hh := ordL_has hi
    exact ⟨fits_ord hm.1 hh.1, fits_ord hm.2 hh.2⟩
theorem anew_fits {h : List Cel} {l : List Val} (hl : ∀ v ∈ l, RightV h.length v) {m : Nat} : ∀ v ∈ l, Fits h.length m (· ∈ ordL h l) v :=
  fun v hv => fits_ord (hl v hv) (fun hx => ordL_mem hv hx)
theorem canonV_again {h : List Cel} {l : List Val} (hr : ∀ c ∈ h, RightV h.length c.l ∧ RightV h.length c.r) (hl : ∀ v ∈ l, RightV h.length v) : canonV (canonC h l) (canonV h l) = canonV h l :=
  (anew_sim l hr).canonV (anew_fits hl)
theorem canonC_again {h : List Cel} {l : List Val} (hr : ∀ c ∈ h, RightV h.length c.l ∧ RightV h.length c.r) (hl : ∀ v ∈ l, RightV h.length v) : canonC (canonC h l) (canonV h l) = canonC h l :=
  (anew_sim l hr).canonC (anew_fits hl)

theorem ren_no {n : Nat} {o : List Nat} {v : Val} (h : inR n v = false) : ren n o v = v := by simp [ren, h]
theorem ren_yes {n : Nat} {o : List Nat} {v : Val} (h : inR n v = true) : ren n o v = ⟨v.k, (o.idxOf v.n.toNat : Nat), v.t⟩ := by simp [ren, h]
theorem inR_no {n : Nat} {v : Val} (h : v.k ≠ 2) : inR n v = false := by
  cases hx : inR n v with
  | false => rfl
  | true => exact absurd (inR_iff.1 hx).1 h
theorem okV_no {n m : Nat} {v : Val} (h : v.k ≠ 2) (hok : okV n v = true) : okV m v = true := by
  unfold okV wrongR at hok ⊢
  rw [if_neg h] at hok ⊢
  exact hok
theorem okV_ren {n : Nat} {o : List Nat} {v : Val} (hok : okV n v = true) (hm : inR n v = true → v.n.toNat ∈ o) : okV o.length (ren n o v) = true := by
  by_cases hk : v.k = 2
  · rcases ok_cases hok with ⟨h0, _⟩ | ⟨h0, _⟩ | ⟨_, h1, h2, h3⟩
    · omega
    · omega
    · have hr : inR n v = true := inR_iff.2 ⟨hk, h1, h2⟩
      have := List.idxOf_lt_length_of_mem (hm hr)
      rw [ren_yes hr]
      unfold okV wrongR
      simp only [hk]
      rw [if_neg (by decide), if_neg (by decide), if_pos trivial, if_neg (by omega), if_pos h3]
      rfl
  · rw [ren_no (inR_no hk)]
    exact okV_no hk hok
theorem wfV_ren {n : Nat} {o : List Nat} {v : Val} (hv : WfV v) (ho : o.length ≤ 9223372036854775806) : WfV (ren n o v) := by
  cases hr : inR n v with
  | false => rw [ren_no hr]; exact hv
  | true =>
    rw [ren_yes hr]
    have := List.idxOf_le_length (a := v.n.toNat) (l := o)
    exact ⟨hv.1, ⟨by show (_ : Int) ≤ ((_ : Nat) : Int); omega, by show ((_ : Nat) : Int) ≤ _; omega⟩, hv.2.2⟩

theorem anew_okC {h : List Cel} {l : List Val} (hc : ∀ c ∈ h, okC h.length c = true ∧ WfC c) (hn : h.length ≤ 9223372036854775806) : ∀ c ∈ canonC h l, okC (canonC h l).length c = true ∧ WfC c := by
  intro c hcm
  obtain ⟨i, hi, rfl⟩ := List.mem_map.1 hcm
  have hlt := (ordL_done h l).1.2 i hi
  have hle := (ordL_done h l).1.le
  obtain ⟨h1, h2⟩ := hc _ (cellAt_mem hlt)
  have hh := ordL_has hi
  simp only [okC, Bool.and_eq_true] at h1
  refine ⟨?_, wfV_ren h2.1 (by omega), wfV_ren h2.2 (by omega)⟩
  rw [canonC_length]
  simp only [okC, Bool.and_eq_true]
  exact ⟨okV_ren h1.1 hh.1, okV_ren h1.2 hh.2⟩
theorem anew_okV {h : List Cel} {l : List Val} (hl : ∀ v ∈ l, okV h.length v = true ∧ WfV v) (hn : h.length ≤ 9223372036854775806) : ∀ v ∈ canonV h l, okV (canonC h l).length v = true ∧ WfV v := by
  intro v hv
  obtain ⟨x, hx, rfl⟩ := List.mem_map.1 hv
  have hle := (ordL_done h l).1.le
  rw [canonC_length]
  exact ⟨okV_ren (hl x hx).1 (fun hr => ordL_mem hx hr), wfV_ren (hl x hx).2 (by omega)⟩
theorem anew_right {h : List Cel} {l : List Val} (hc : ∀ c ∈ h, okC h.length c = true ∧ WfC c) (hl : ∀ v ∈ l, okV h.length v = true ∧ WfV v) (hn : h.length ≤ 9223372036854775806) : rightB (canonC h l) (canonV h l) = true := by
  simp only [rightB, Bool.and_eq_true, List.all_eq_true]
  exact ⟨fun v hv => (anew_okV hl hn v hv).1, fun c hcm => (anew_okC hc hn c hcm).1⟩

theorem anew_show {h : List Cel} {l : List Val} (hc : ∀ c ∈ h, okC h.length c = true ∧ WfC c) (d : Nat) : ∀ (v : Val), okV h.length v = true → (inR h.length v = true → v.n.toNat ∈ ordL h l) → showV (canonC h l) d (ren h.length (ordL h l) v) = showV h d v := by
  induction d with
  | zero =>
    intro v hok hm
    cases hr : inR h.length v with
    | false => rw [ren_no hr]; simp [showV]
    | true => rw [ren_yes hr]; simp [showV, (inR_iff.1 hr).1]
  | succ d ih =>
    intro v hok hm
    cases hr : inR h.length v with
    | false =>
      have hk : v.k ≠ 2 := fun hk => by
        have := right_vals hok hk
        rw [inR_iff.2 ⟨hk, this⟩] at hr
        cases hr
      have i2 : inR (canonC h l).length v = false := inR_no hk
      rw [ren_no hr]
      simp [showV, hr, i2]
    | true =>
      have hk := (inR_iff.1 hr).1
      have hmem := hm hr
      have hlt := List.idxOf_lt_length_of_mem hmem
      have hr2 : inR (canonC h l).length ⟨v.k, ((ordL h l).idxOf v.n.toNat : Nat), v.t⟩ = true := inR_iff.2 ⟨hk, by simp, by rw [canonC_length]; simp; omega⟩
      obtain ⟨c1, _⟩ := hc _ (cellAt_mem ((ordL_done h l).1.2 _ hmem))
      simp only [okC, Bool.and_eq_true] at c1
      have hh := ordL_has hmem
      rw [ren_yes hr, showV_node (v := ⟨v.k, ((ordL h l).idxOf v.n.toNat : Nat), v.t⟩) hk hr2, showV_node hk hr]
      show 40 :: (showV _ d (cellAt _ ((ordL h l).idxOf v.n.toNat)).l ++ 32 :: (showV _ d (cellAt _ ((ordL h l).idxOf v.n.toNat)).r ++ [41])) = _
      rw [cellAt_canonC hmem]
      show 40 :: (showV _ d (ren _ _ _) ++ 32 :: (showV _ d (ren _ _ _) ++ [41])) = _
      rw [ih _ c1.1 hh.1, ih _ c1.2 hh.2]
end Go.Proofs.YtcemfgknnpjlhaaDoor
