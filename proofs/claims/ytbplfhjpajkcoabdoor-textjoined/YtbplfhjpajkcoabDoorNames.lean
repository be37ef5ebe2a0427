/- Names and texts in a program. -/
import Derived.Test.YtbplfhjpajkcoabDoorForms
namespace Go.Proofs.YtbplfhjpajkcoabDoor
open Go.RowKit

theorem h80 : Tryd.prog.stoodInHeld 80 = false := by kernel_rfl
theorem u80 : Tryd.prog.underlying 80 = some (.struct (Tryd.prog.fieldsOf 80)) := by kernel_rfl
set_option maxRecDepth 20000 in
theorem eq80 (f : Form) (w : World) : (binOp .eql 80 (fv f) (.agg #[.int .i64 0, .int .i64 0, .int .i64 0, .int .i64 0])).run Tryd.prog w = .ok (.bool (decide (f = form0))) w := by
  have : (Op.equalIn 10000 80 (fv f) (.agg #[.int .i64 0, .int .i64 0, .int .i64 0, .int .i64 0])).run Tryd.prog w = .ok (decide (f = form0)) w := by
    rw [run_equalIn_agg _ _ _ _ _ u80 h80]
    simp only [go_sem, Tryd.underlying80]
    obtain ⟨s, x, o, n⟩ := f
    by_cases h1 : s = 0 <;> by_cases h2 : x = 0 <;> by_cases h3 : o = 0 <;> by_cases h4 : n = 0 <;> simp [h1, h2, h3, h4, go_sem, form0]
  rw [run_eql_struct, this]; rfl
theorem get_bs {v : Bs} {k : Nat} (h : k < v.length) : (bs v)[k]'(by rw [bs_size]; exact h) = v[k] := rfl
theorem all_take {f : UInt8 → Bool} {v : Bs} {k : Nat} {c : UInt8} (h : (v.take k).all f = true) (hk : k < v.length) (hc : v[k] = c) (hf : f c = true) : (v.take (k + 1)).all f = true := by
  subst hc
  rw [List.take_add_one, List.all_append, h]
  simp [hk, hf]
theorem all_not {f : UInt8 → Bool} {v : Bs} {k : Nat} {c : UInt8} (hk : k < v.length) (hc : v[k] = c) (hf : f c = false) : v.all f = false := by
  subst hc
  rw [List.all_eq_false]
  exact ⟨v[k], List.getElem_mem hk, by simp [hf]⟩
set_option maxHeartbeats 400000 in
set_option maxRecDepth 20000 in
theorem isName_any (v : Bs) (mb : Nat) (w : World) (hM : FM mb w) (hv : v.length ≤ 1500) :
    Calls Tryd.prog 30 #[.string (bs v), .map (some mb)] w fun e w' => e = .returned (.bool (isName v)) ∧ w' = w := by
  have hl := hM.look v (by unfold maxLen; omega)
  have he := eq80 (formOf v) w
  have hgd : ∀ x y, (eqGuard .eql 80 x y (fv (formOf v)) (.agg #[.int .i64 0, .int .i64 0, .int .i64 0, .int .i64 0])).run Tryd.prog w = .ok () w := fun x y => run_eqGuard_agg w .eql 80 x y _ _ (by kernel_rfl)
  have hsz := bs_size v
  have HN : Hid (isName v = (decide (v.length ≠ 0) && decide (v.length ≤ 8) && v.all letter && decide (formOf v = form0))) := rfl
  generalize isName v = r at HN ⊢
  generalize decide (formOf v = form0) = d at HN he
  generalize fv (formOf v) = F at hl he hgd
  clear hM
  by_cases h0 : v.length = 0
  · have hr : r = false := by rw [HN.out]; simp [h0]
    subst hr
    go_enter Tryd.func30, Tryd.ntmps30
    go_wp2
    all_goals go_ret
    all_goals exact ⟨rfl, rfl⟩
  · by_cases h8 : 8 < v.length
    · have h9 : decide (v.length ≤ 8) = false := by simp; omega
      have hr : r = false := by rw [HN.out, h9]; simp
      subst hr
      go_enter Tryd.func30, Tryd.ntmps30
      go_wp2
      all_goals go_ret
      all_goals exact ⟨rfl, rfl⟩
    · have i0 : ((v.length : Int) == 0) = false := by rw [beq_eq_false_iff_ne]; omega
      have i8 : ¬ (8 : Int) < (v.length : Int) := by omega
      go_enter Tryd.func30, Tryd.ntmps30
      go_wp2
      go_loop [16, 5] (fun i _ => ∃ k : Nat, k ≤ v.length ∧ i = .int .i64 k ∧ Hid ((v.take k).all letter = true)) (fun i _ => v.length - (intOf i).toNat)
      case atStart => exact ⟨0, Nat.zero_le _, rfl, rfl⟩
      case round =>
        obtain ⟨k, hk, rfl, hall⟩ := hrel
        by_cases hlt : k < v.length
        · have hz : (k : Int) < ((bs v).size : Int) := by rw [hsz]; omega
          have hz' : k < (bs v).size := by rw [hsz]; omega
          generalize hc : (bs v)[k]'hz' = c
          have hck : v[k] = c := hc
          have HCK := hide hck
          clear hck
          by_cases h1 : c.toNat < 97
          · have hr : r = false := by rw [HN.out, all_not hlt HCK.out (by simp [letter]; omega)]; simp
            subst hr
            have h2 : (c.toNat : Int) < 97 := by omega
            go_wp2
            all_goals go_ret
            all_goals exact ⟨rfl, rfl⟩
          · have h2 : ¬ (c.toNat : Int) < 97 := by omega
            by_cases h3 : 122 < c.toNat
            · have hr : r = false := by rw [HN.out, all_not hlt HCK.out (by simp [letter]; omega)]; simp
              subst hr
              have h4 : (122 : Int) < (c.toNat : Int) := by omega
              go_wp2
              all_goals go_ret
              all_goals exact ⟨rfl, rfl⟩
            · have h4 : ¬ (122 : Int) < (c.toNat : Int) := by omega
              have HL := hide (all_take hall.out hlt HCK.out (by simp [letter]; omega))
              go_wp2
              go_round
              case rel => exact ⟨k + 1, by omega, by go_num, HL⟩
              case measure => simp [intOf]; omega
        · obtain rfl : k = v.length := by omega
          have hr : r = d := by
            have := hall.out
            rw [List.take_length] at this
            rw [HN.out, this]
            have h9 : v.length ≤ 8 := by omega
            simp [h0, h9]
          subst hr
          go_wp2
          all_goals go_ret
          all_goals exact ⟨rfl, rfl⟩
set_option maxHeartbeats 400000 in
set_option maxRecDepth 20000 in
theorem isWord_any (v : Bs) (w : World) (hv : v.length ≤ 1500) :
    Calls Tryd.prog 15 #[.string (bs v)] w fun e w' => e = .returned (.bool (isWord v)) ∧ w' = w := by
  have hsz := bs_size v
  have HN : Hid (isWord v = (decide (v.length ≤ 12) && v.all wordC)) := rfl
  generalize isWord v = r at HN ⊢
  by_cases h8 : 12 < v.length
  · have h9 : decide (v.length ≤ 12) = false := by simp; omega
    have hr : r = false := by rw [HN.out, h9]; simp
    subst hr
    go_enter Tryd.func15, Tryd.ntmps15
    go_wp2
    all_goals go_ret
    all_goals exact ⟨rfl, rfl⟩
  · go_enter Tryd.func15, Tryd.ntmps15
    go_wp2
    go_loop [9, 3] (fun i _ => ∃ k : Nat, k ≤ v.length ∧ i = .int .i64 k ∧ Hid ((v.take k).all wordC = true)) (fun i _ => v.length - (intOf i).toNat)
    case atStart => exact ⟨0, Nat.zero_le _, rfl, rfl⟩
    case round =>
      obtain ⟨k, hk, rfl, hall⟩ := hrel
      by_cases hlt : k < v.length
      · have hz : (k : Int) < ((bs v).size : Int) := by rw [hsz]; omega
        have hz' : k < (bs v).size := by rw [hsz]; omega
        generalize hc : (bs v)[k]'hz' = c
        have HCK : Hid (v[k] = c) := hc
        by_cases h1 : c.toNat < 32
        · have hr : r = false := by rw [HN.out, all_not hlt HCK.out (by simp [wordC]; omega)]; simp
          subst hr
          have h2 : (c.toNat : Int) < 32 := by omega
          go_wp2
          all_goals go_ret
          all_goals exact ⟨rfl, rfl⟩
        · have h2 : ¬ (c.toNat : Int) < 32 := by omega
          by_cases h3 : 126 < c.toNat
          · have hr : r = false := by rw [HN.out, all_not hlt HCK.out (by simp [wordC]; omega)]; simp
            subst hr
            have h4 : (126 : Int) < (c.toNat : Int) := by omega
            go_wp2
            all_goals go_ret
            all_goals exact ⟨rfl, rfl⟩
          · have h4 : ¬ (126 : Int) < (c.toNat : Int) := by omega
            by_cases h5 : c.toNat = 39
            · have hr : r = false := by rw [HN.out, all_not hlt HCK.out (by simp [wordC, h5])]; simp
              subst hr
              have h6 : ((c.toNat : Int) == 39) = true := by simp; omega
              go_wp2
              all_goals go_ret
              all_goals exact ⟨rfl, rfl⟩
            · have h6 : ((c.toNat : Int) == 39) = false := by simp; omega
              have HL := hide (all_take hall.out hlt HCK.out (by simp [wordC, h5]; omega))
              go_wp2
              go_round
              case rel => exact ⟨k + 1, by omega, by go_num, HL⟩
              case measure => simp [intOf]; omega
      · obtain rfl : k = v.length := by omega
        have hr : r = true := by
          have := hall.out
          rw [List.take_length] at this
          rw [HN.out, this]
          have h9 : v.length ≤ 12 := by omega
          simp [h9]
        subst hr
        go_wp2
        all_goals go_ret
        all_goals exact ⟨rfl, rfl⟩
end Go.Proofs.YtbplfhjpajkcoabDoor
