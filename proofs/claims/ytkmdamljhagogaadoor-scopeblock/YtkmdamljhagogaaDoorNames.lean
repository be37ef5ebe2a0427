/- What is a name, and what a word. -/
import Derived.Test.YtkmdamljhagogaaDoorLow
namespace Go.Proofs.YtkmdamljhagogaaDoor
open Go.RowKit

theorem all_take {f : UInt8 → Bool} {v : Bs} {k : Nat} (h : (v.take k).all f = true) (hk : k < v.length) {c : UInt8} (hc : v[k] = c) (hf : f c = true) : (v.take (k + 1)).all f = true := by
  rw [List.take_succ_eq_append_getElem hk, List.all_append, h, hc]
  simp [hf]
theorem all_not {f : UInt8 → Bool} {v : Bs} {k : Nat} (hk : k < v.length) {c : UInt8} (hc : v[k] = c) (hf : f c = false) : v.all f = false := by
  rw [List.all_eq_false]
  exact ⟨c, hc ▸ List.getElem_mem hk, by simp [hf]⟩
theorem bs_inj {a b : Bs} (h : bs a = bs b) : a = b := by
  have := congrArg (fun x => x.data.toList) h
  exact this
theorem bs_eq (a b : Bs) : (bs a = bs b) = (a = b) := propext ⟨bs_inj, fun h => h ▸ rfl⟩
theorem bs_toList (a : Bs) : (bs a).toList = a := by rw [ByteArray.toList_eq]; rfl
theorem bs_ne {a b : Bs} (h : ¬ a = b) : ((bs a).toList == (bs b).toList) = false := by rw [bs_toList, bs_toList]; simpa using h
theorem bs_same (a : Bs) : ((bs a).toList == (bs a).toList) = true := by simp
def takenV : Array Value := #[.string ⟨#[108, 101, 116]⟩, .string ⟨#[115, 101, 116]⟩, .string ⟨#[105, 102]⟩, .string ⟨#[119, 104, 105, 108, 101]⟩, .string ⟨#[115, 97, 121]⟩, .string ⟨#[114, 101, 116, 117, 114, 110]⟩, .string ⟨#[112, 117, 116, 108]⟩, .string ⟨#[112, 117, 116, 114]⟩, .string ⟨#[100, 111]⟩, .string ⟨#[99, 101, 108, 108]⟩, .string ⟨#[108, 101, 102, 116]⟩, .string ⟨#[114, 105, 103, 104, 116]⟩, .string ⟨#[97, 115, 107]⟩, .string ⟨#[104, 101, 114, 101]⟩, .string ⟨#[103, 111]⟩]
theorem takenV_get : ∀ k (h : k < taken.length), takenV[k]? = some (.string (bs taken[k])) := by
  intro k h
  have h1 : taken.length = 15 := rfl
  rw [h1] at h
  match k, h with
  | 0, _ => rfl
  | 1, _ => rfl
  | 2, _ => rfl
  | 3, _ => rfl
  | 4, _ => rfl
  | 5, _ => rfl
  | 6, _ => rfl
  | 7, _ => rfl
  | 8, _ => rfl
  | 9, _ => rfl
  | 10, _ => rfl
  | 11, _ => rfl
  | 12, _ => rfl
  | 13, _ => rfl
  | 14, _ => rfl
  | n + 15, h => omega
theorem taken_step {v : Bs} {k : Nat} (h : k < taken.length) (h1 : v ∉ taken.take k) (h2 : ¬ v = taken[k]) : v ∉ taken.take (k + 1) := by
  rw [List.take_succ_eq_append_getElem h, List.mem_append]
  rintro (h3 | h3)
  · exact h1 h3
  · exact h2 (by simpa using h3)
set_option maxHeartbeats 1000000 in
set_option maxRecDepth 20000 in
theorem name_any (v : Bs) (w : World) (hv : v.length ≤ 1500) :
    Calls Tryd.prog 11 #[.string (bs v)] w fun e w' => e = .returned (.bool (isName v)) ∧ Fr nothing w w' := by
  have hsz := bs_size v
  have HN : Hid (isName v = (!(taken.contains v) && v.all letter && decide (0 < v.length) && decide (v.length < 9))) := rfl
  generalize isName v = r at HN ⊢
  go_enter Tryd.func11, Tryd.ntmps11
  go_wp2
  go_loop [8, 4] (fun i _ => ∃ k : Nat, k ≤ 15 ∧ i = .int .i64 k ∧ Hid (v ∉ taken.take k)) (fun i _ => 15 - (intOf i).toNat)
  case atStart => exact ⟨0, Nat.zero_le _, rfl, by simp [Hid]⟩
  case round =>
    obtain ⟨k, hk, rfl, hno⟩ := hrel
    by_cases hlt : k < 15
    · have hkl : k < taken.length := hlt
      have hcell : ∀ T, (w.alloc (.cells takenV T)).cell? ⟨w.heap.size, k, none⟩ = some (.string (bs taken[k])) := fun T => by
        rw [World.cell?_alloc_new]; exact takenV_get k hkl
      unfold takenV at hcell
      have HS : Hid (¬ v = taken[k] → v ∉ taken.take (k + 1)) := fun h2 => taken_step hkl hno.out h2
      have HM : Hid (taken[k] ∈ taken) := List.getElem_mem hkl
      generalize taken[k] = u at hcell HS HM
      by_cases hq : v = u
      · have hr : r = false := by
          rw [HN.out]
          have : v ∈ taken := hq ▸ HM.out
          simp [this]
        subst hr
        subst hq
        go_wp2
        all_goals go_ret
        all_goals exact ⟨rfl, (Fr.refl _ _).alloc _⟩
      · have hq1 := bs_ne hq
        go_wp2
        go_round
        case rel => exact ⟨k + 1, by omega, by go_num, HS.out hq⟩
        case measure => simp [intOf]; omega
    · have hno2 : Hid (taken.contains v = false) := by
        have h1 : k = 15 := by omega
        subst h1
        have := hno.out
        rw [List.take_of_length_le (by decide)] at this
        have h2 : taken.contains v = false := by simpa using this
        exact h2
      clear hno
      go_wp2
      go_loop [18, 5] (fun i _ => ∃ k : Nat, k ≤ v.length ∧ i = .int .i64 k ∧ Hid ((v.take k).all letter = true)) (fun i _ => v.length - (intOf i).toNat)
      case atStart => exact ⟨0, Nat.zero_le _, rfl, rfl⟩
      case round =>
        obtain ⟨j, hj, rfl, hall⟩ := hrel
        by_cases hjl : j < v.length
        · have hz : (j : Int) < ((bs v).size : Int) := by rw [hsz]; omega
          have hz' : j < (bs v).size := by rw [hsz]; omega
          generalize hc : (bs v)[j]'hz' = c
          have HCK : Hid (v[j] = c) := hc
          by_cases h1 : c.toNat < 97
          · have hr : r = false := by rw [HN.out, all_not hjl HCK.out (by simp [letter]; omega)]; simp
            subst hr
            have h2 : (c.toNat : Int) < 97 := by omega
            go_wp2
            all_goals go_ret
            all_goals exact ⟨rfl, (Fr.refl _ _).alloc _⟩
          · have h2 : ¬ (c.toNat : Int) < 97 := by omega
            by_cases h3 : 122 < c.toNat
            · have hr : r = false := by rw [HN.out, all_not hjl HCK.out (by simp [letter]; omega)]; simp
              subst hr
              have h4 : (122 : Int) < (c.toNat : Int) := by omega
              go_wp2
              all_goals go_ret
              all_goals exact ⟨rfl, (Fr.refl _ _).alloc _⟩
            · have h4 : ¬ (122 : Int) < (c.toNat : Int) := by omega
              have HL := hide (all_take hall.out hjl HCK.out (by simp [letter]; omega))
              go_wp2
              go_round
              case rel => exact ⟨j + 1, by omega, by go_num, HL⟩
              case measure => simp [intOf]; omega
        · obtain rfl : j = v.length := by omega
          have hr : r = (decide (0 < v.length) && decide (v.length < 9)) := by
            have := hall.out
            rw [List.take_length] at this
            rw [HN.out, this, hno2.out]
            simp
          subst hr
          clear hall
          by_cases h0 : 0 < v.length
          · by_cases h9 : v.length < 9
            · have g0 : (0 : Int) < (v.length : Int) := by omega
              have g9 : (v.length : Int) < 9 := by omega
              go_wp2
              all_goals go_ret
              all_goals exact ⟨by simp [*], (Fr.refl _ _).alloc _⟩
            · have g0 : (0 : Int) < (v.length : Int) := by omega
              have g9 : ¬ (v.length : Int) < 9 := by omega
              go_wp2
              all_goals go_ret
              all_goals exact ⟨by simp [*], (Fr.refl _ _).alloc _⟩
          · have g0 : ¬ (0 : Int) < (v.length : Int) := by omega
            go_wp2
            all_goals go_ret
            all_goals exact ⟨by simp [*], (Fr.refl _ _).alloc _⟩
set_option maxHeartbeats 400000 in
set_option maxRecDepth 20000 in
theorem isWord_any (v : Bs) (w : World) (hv : v.length ≤ 1500) :
    Calls Tryd.prog 33 #[.string (bs v)] w fun e w' => e = .returned (.bool (isWord v)) ∧ w' = w := by
  have hsz := bs_size v
  have HN : Hid (isWord v = (v.all wordC && decide (v.length < 13))) := rfl
  generalize isWord v = r at HN ⊢
  go_enter Tryd.func33, Tryd.ntmps33
  go_wp2
  go_loop [6, 3] (fun i _ => ∃ k : Nat, k ≤ v.length ∧ i = .int .i64 k ∧ Hid ((v.take k).all wordC = true)) (fun i _ => v.length - (intOf i).toNat)
  case atStart => exact ⟨0, Nat.zero_le _, rfl, rfl⟩
  case round =>
    obtain ⟨k, hk, rfl, hall⟩ := hrel
    by_cases hlt : k < v.length
    · have hz : (k : Int) < ((bs v).size : Int) := by rw [hsz]; omega
      have hz' : k < (bs v).size := by rw [hsz]; omega
      generalize hc : (bs v)[k]'hz' = c
      have HCK : Hid (v[k] = c) := hc
      by_cases h1 : c.toNat < 32
      · have hr : r = false := by rw [HN.out, all_not hlt HCK.out (by simp [wordC]; omega)]; simp
        subst hr
        have h2 : (c.toNat : Int) < 32 := by omega
        go_wp2
        all_goals go_ret
        all_goals exact ⟨rfl, rfl⟩
      · have h2 : ¬ (c.toNat : Int) < 32 := by omega
        by_cases h3 : 126 < c.toNat
        · have hr : r = false := by rw [HN.out, all_not hlt HCK.out (by simp [wordC]; omega)]; simp
          subst hr
          have h4 : (126 : Int) < (c.toNat : Int) := by omega
          go_wp2
          all_goals go_ret
          all_goals exact ⟨rfl, rfl⟩
        · have h4 : ¬ (126 : Int) < (c.toNat : Int) := by omega
          by_cases h5 : c.toNat = 39
          · have hr : r = false := by rw [HN.out, all_not hlt HCK.out (by simp [wordC, h5])]; simp
            subst hr
            have h6 : ((c.toNat : Int) == 39) = true := by simp; omega
            go_wp2
            all_goals go_ret
            all_goals exact ⟨rfl, rfl⟩
          · have h6 : ((c.toNat : Int) == 39) = false := by simp; omega
            have HL := hide (all_take hall.out hlt HCK.out (by simp [wordC, h5]; omega))
            go_wp2
            go_round
            case rel => exact ⟨k + 1, by omega, by go_num, HL⟩
            case measure => simp [intOf]; omega
    · obtain rfl : k = v.length := by omega
      have hr : r = decide (v.length < 13) := by
        have := hall.out
        rw [List.take_length] at this
        rw [HN.out, this]
        simp
      subst hr
      clear hall
      by_cases h9 : v.length < 13
      · have g9 : (v.length : Int) < 13 := by omega
        go_wp2
        all_goals go_ret
        all_goals exact ⟨by simp [*], rfl⟩
      · have g9 : ¬ (v.length : Int) < 13 := by omega
        go_wp2
        all_goals go_ret
        all_goals exact ⟨by simp [*], rfl⟩
end Go.Proofs.YtkmdamljhagogaaDoor
