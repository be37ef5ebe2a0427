/- Numbers in a program. -/
import Derived.Test.YtbplfhjpajkcoabDoorNames
import Derived.Test.YtbplfhjpajkcoabDoorLow
import Derived.Test.YtbplfhjpajkcoabDoorShelf
namespace Go.Proofs.YtbplfhjpajkcoabDoor
open Go.RowKit

def digit (c : UInt8) : Bool := decide (48 ≤ c.toNat) && decide (c.toNat ≤ 57)
def isDigits (v : Bs) : Bool := decide (v.length ≠ 0) && !(decide (v.head? = some 48) && decide (1 < v.length)) && v.all digit
def isNum (v : Bs) : Bool := isDigits (Lib.trimPrefix v [45])
def inInt (n : Int) : Bool := decide (-1073741824 ≤ n) && decide (n ≤ 1073741824)
def numVal (v : Bs) : Option Int :=
  match Lib.atoiAll v with
  | .ok n => if inInt n then some n else none
  | _ => none
def MM : Nums := ⟨isNum, numVal⟩
theorem trim_bs (v : Bs) : (⟨(Lib.trimPrefix (bs v).data.toList [45]).toArray⟩ : ByteArray) = bs (Lib.trimPrefix v [45]) := rfl
theorem trim_len (v : Bs) : (Lib.trimPrefix v [45]).length ≤ v.length := by
  unfold Lib.trimPrefix
  split
  · simp
  · exact Nat.le_refl _
set_option maxHeartbeats 400000 in
set_option maxRecDepth 20000 in
theorem isNumber_any (v : Bs) (w : World) (hv : v.length ≤ 1500) :
    Calls Tryd.prog 69 #[.string (bs v)] w fun e w' => e = .returned (.bool (isNum v)) ∧ w' = w := by
  have HC := hide (Tryd.strings_TrimPrefix (bs v) ⟨#[45]⟩ w)
  have hl := trim_len v
  have HN : Hid (isNum v = isDigits (Lib.trimPrefix v [45])) := rfl
  generalize isNum v = r at HN ⊢
  have e1 : (⟨(Lib.trimPrefix (bs v).data.toList (⟨#[45]⟩ : ByteArray).data.toList).toArray⟩ : ByteArray) = bs (Lib.trimPrefix v [45]) := rfl
  rw [e1] at HC
  clear e1
  generalize Lib.trimPrefix v [45] = d at *
  have hdl : d.length ≤ 1500 := by omega
  clear hv hl
  have hsz := bs_size d
  cases d with
  | nil =>
    have hr : r = false := by rw [HN.out]; rfl
    subst hr
    have hb : bs [] = ⟨#[]⟩ := rfl
    rw [hb] at HC hsz
    go_enter Tryd.func69, Tryd.ntmps69
    go_wp2_with (go_at_call 77; refine HC.out.mono ?_; rintro e w1 ⟨rfl, rfl⟩)
    all_goals go_ret
    all_goals exact ⟨rfl, rfl⟩
  | cons x t =>
    have hne : ¬ (bs (x :: t)).toList = [] := by
      rw [ByteArray.toList_eq]; simp [bs]
    have hne2 : (bs (x :: t)).toList.isEmpty = false := by
      rw [ByteArray.toList_eq]; rfl
    have h0' : 0 < (bs (x :: t)).size := by rw [hsz]; simp
    have h0 : (0 : Int) < ((bs (x :: t)).size : Int) := by omega
    have hx : (bs (x :: t))[0]'h0' = x := rfl
    have hh : Hid ((x :: t).head? = some x) := rfl
    have hp : 0 < (x :: t).length := by simp
    generalize x :: t = d at *
    have i48 := u8_is x 48 48 rfl
    by_cases hbad : (x == 48) = true ∧ 1 < d.length
    · rw [hbad.1] at i48
      have j1 : (1 : Int) < (d.length : Int) := by omega
      have hr : r = false := by
        rw [HN.out]
        have : x = 48 := by simpa using hbad.1
        simp [isDigits, hh.out, this, hbad.2]
      subst hr
      clear hbad
      go_enter Tryd.func69, Tryd.ntmps69
      go_wp2_with (go_at_call 77; refine HC.out.mono ?_; rintro e w1 ⟨rfl, rfl⟩)
      all_goals go_ret
      all_goals exact ⟨rfl, rfl⟩
    · have hd : Hid (isDigits d = d.all digit) := by
        have h1 : decide (d.length ≠ 0) = true := by rw [decide_eq_true_eq]; omega
        have h2 : (decide (d.head? = some 48) && decide (1 < d.length)) = false := by
          rw [hh.out]
          simp only [Bool.and_eq_false_iff, decide_eq_false_iff_not]
          by_cases hx48 : x = 48
          · exact .inr fun hl => hbad ⟨by simp [hx48], hl⟩
          · exact .inl fun e => hx48 (Option.some.inj e)
        show isDigits d = d.all digit
        unfold isDigits
        rw [h1, h2]
        rfl
      have key : ((x == 48) = false) ∨ ((x == 48) = true ∧ ¬ (1 : Int) < (d.length : Int)) := by
        cases hq : (x == 48) with
        | false => exact .inl rfl
        | true => exact .inr ⟨rfl, fun hl => hbad ⟨hq, by omega⟩⟩
      clear hbad
      rcases key with key | key
      · rw [key] at i48
        go_enter Tryd.func69, Tryd.ntmps69
        go_wp2_with (go_at_call 77; refine HC.out.mono ?_; rintro e w1 ⟨rfl, rfl⟩)
        go_loop [21, 4] (fun i _ => ∃ k : Nat, k ≤ d.length ∧ i = .int .i64 k ∧ Hid ((d.take k).all digit = true)) (fun i _ => d.length - (intOf i).toNat)
        case atStart => exact ⟨0, Nat.zero_le _, rfl, rfl⟩
        case round =>
          obtain ⟨k, hk, rfl, hall⟩ := hrel
          clear hx h0 h0'
          by_cases hlt : k < d.length
          · have hz : (k : Int) < ((bs d).size : Int) := by rw [hsz]; omega
            have hz' : k < (bs d).size := by rw [hsz]; omega
            generalize hc : (bs d)[k]'hz' = c
            have HCK : Hid (d[k] = c) := hc
            by_cases h1 : c.toNat < 48
            · have hr : r = false := by rw [HN.out, hd.out, all_not hlt HCK.out (by simp [digit]; omega)]
              subst hr
              have h2 : (c.toNat : Int) < 48 := by omega
              go_wp2
              all_goals go_ret
              all_goals exact ⟨rfl, rfl⟩
            · have h2 : ¬ (c.toNat : Int) < 48 := by omega
              by_cases h3 : 57 < c.toNat
              · have hr : r = false := by rw [HN.out, hd.out, all_not hlt HCK.out (by simp [digit]; omega)]
                subst hr
                have h4 : (57 : Int) < (c.toNat : Int) := by omega
                go_wp2
                all_goals go_ret
                all_goals exact ⟨rfl, rfl⟩
              · have h4 : ¬ (57 : Int) < (c.toNat : Int) := by omega
                have HL := hide (all_take hall.out hlt HCK.out (by simp [digit]; omega))
                go_wp2
                go_round
                case rel => exact ⟨k + 1, by omega, by go_num, HL⟩
                case measure => simp [intOf]; omega
          · obtain rfl : k = d.length := by omega
            have hr : r = true := by
              have := hall.out
              rw [List.take_length] at this
              rw [HN.out, hd.out, this]
            subst hr
            go_wp2
            all_goals go_ret
            all_goals exact ⟨rfl, rfl⟩
      · rw [key.1] at i48
        have k2 := key.2
        go_enter Tryd.func69, Tryd.ntmps69
        go_wp2_with (go_at_call 77; refine HC.out.mono ?_; rintro e w1 ⟨rfl, rfl⟩)
        go_loop [21, 4] (fun i _ => ∃ k : Nat, k ≤ d.length ∧ i = .int .i64 k ∧ Hid ((d.take k).all digit = true)) (fun i _ => d.length - (intOf i).toNat)
        case atStart => exact ⟨0, Nat.zero_le _, rfl, rfl⟩
        case round =>
          obtain ⟨k, hk, rfl, hall⟩ := hrel
          clear hx h0 h0'
          by_cases hlt : k < d.length
          · have hz : (k : Int) < ((bs d).size : Int) := by rw [hsz]; omega
            have hz' : k < (bs d).size := by rw [hsz]; omega
            generalize hc : (bs d)[k]'hz' = c
            have HCK : Hid (d[k] = c) := hc
            by_cases h1 : c.toNat < 48
            · have hr : r = false := by rw [HN.out, hd.out, all_not hlt HCK.out (by simp [digit]; omega)]
              subst hr
              have h2 : (c.toNat : Int) < 48 := by omega
              go_wp2
              all_goals go_ret
              all_goals exact ⟨rfl, rfl⟩
            · have h2 : ¬ (c.toNat : Int) < 48 := by omega
              by_cases h3 : 57 < c.toNat
              · have hr : r = false := by rw [HN.out, hd.out, all_not hlt HCK.out (by simp [digit]; omega)]
                subst hr
                have h4 : (57 : Int) < (c.toNat : Int) := by omega
                go_wp2
                all_goals go_ret
                all_goals exact ⟨rfl, rfl⟩
              · have h4 : ¬ (57 : Int) < (c.toNat : Int) := by omega
                have HL := hide (all_take hall.out hlt HCK.out (by simp [digit]; omega))
                go_wp2
                go_round
                case rel => exact ⟨k + 1, by omega, by go_num, HL⟩
                case measure => simp [intOf]; omega
          · obtain rfl : k = d.length := by omega
            have hr : r = true := by
              have := hall.out
              rw [List.take_length] at this
              rw [HN.out, hd.out, this]
            subst hr
            go_wp2
            all_goals go_ret
            all_goals exact ⟨rfl, rfl⟩
/-- What strconv's errors are, at their places. -/
structure Er (w : World) : Prop where
  s : ∃ ev, w.cell? ⟨0, 0, none⟩ = some ev ∧ (ev = .nilIface ∨ ∃ te pe, ev = .iface te pe)
  r : ∃ ev, w.cell? ⟨1, 0, none⟩ = some ev ∧ (ev = .nilIface ∨ ∃ te pe, ev = .iface te pe)
theorem Er.fr {S : Nat → Prop} {w w' : World} (h : Er w) (hf : Fr S w w') (h0 : ¬ S 0) (h1 : ¬ S 1) : Er w' := by
  obtain ⟨⟨a, ha, ha'⟩, ⟨b, hb, hb'⟩⟩ := h
  exact ⟨⟨a, (hf.cell (p := ⟨0, 0, none⟩) (lt_of_cell ha) h0).trans ha, ha'⟩, ⟨b, (hf.cell (p := ⟨1, 0, none⟩) (lt_of_cell hb) h1).trans hb, hb'⟩⟩
theorem atoi_fails (v : Bs) (w : World) (hE : Er w) (hv : v.length ≤ 1500) (h : ∀ n, Lib.atoiAll v ≠ .ok n) :
    Calls Tryd.prog 58 #[.string (bs v)] w fun e w' => ∃ n N, e = .returned (.tuple #[.int .i64 n, .iface 126 (.pointer (some ⟨N, 0, none⟩))]) ∧ Below w.heap.size w w' := by
  have hs := bs_size v
  cases hA : Lib.atoiAll v with
  | ok n => exact absurd hA (h n)
  | «syntax» =>
    obtain ⟨ev, h1, h2⟩ := hE.s
    exact (Tryd.strconv_Atoi_syntax (bs v) (by omega) hA ev w h1 h2).mono fun e w' ⟨N, k, _, _, b⟩ => ⟨_, N, k, b⟩
  | range =>
    obtain ⟨ev, h1, h2⟩ := hE.r
    exact (Tryd.strconv_Atoi_range (bs v) (by omega) hA ev w h1 h2).mono fun e w' ⟨N, k, _, _, b⟩ => ⟨_, N, k, b⟩
set_option maxHeartbeats 400000 in
theorem number_some (v : Bs) (w : World) (hv : v.length ≤ 1500) {n : Int} (h : numVal v = some n) :
    Calls Tryd.prog 70 #[.string (bs v)] w fun e w' => e = .returned (.tuple #[.int .i64 n, .int .i64 0]) ∧ Below w.heap.size w w' := by
  unfold numVal at h
  split at h
  · rename_i n1 hA
    split at h
    · rename_i hi
      cases h
      simp only [inInt, Bool.and_eq_true, decide_eq_true_eq] at hi
      have i1 : ¬ n < -1073741824 := by omega
      have i2 : ¬ 1073741824 < n := by omega
      have HC := hide (Tryd.strconv_Atoi_ok (bs v) (by rw [bs_size]; omega) n hA w)
      clear hA
      go_enter Tryd.func70, Tryd.ntmps70
      go_wp2_with (go_at_call 58; refine HC.out.mono ?_; rintro e w1 ⟨rfl, hw⟩; have HW := hide hw; clear hw)
      all_goals go_ret2
      refine ⟨rfl, ?_⟩
      rcases HW.out with rfl | ⟨t, rfl⟩
      · exact Below.refl _ _
      · exact Lib.bytesWorld_below _ _ _
    · cases h
  · cases h
set_option maxHeartbeats 400000 in
theorem number_none (v : Bs) (w : World) (hE : Er w) (hv : v.length ≤ 1500) (h : numVal v = none) :
    Calls Tryd.prog 70 #[.string (bs v)] w fun e w' => e = .returned (.tuple #[.int .i64 0, .int .i64 3]) ∧ Below w.heap.size w w' := by
  by_cases hA : ∃ n, Lib.atoiAll v = .ok n
  · obtain ⟨n, hA⟩ := hA
    have hi : n < -1073741824 ∨ 1073741824 < n := by
      unfold numVal at h
      rw [hA] at h
      dsimp only at h
      split at h
      · cases h
      · rename_i hi
        simp only [inInt, Bool.and_eq_true, decide_eq_true_eq] at hi
        omega
    have HC := hide (Tryd.strconv_Atoi_ok (bs v) (by rw [bs_size]; omega) n hA w)
    clear hA h
    rcases hi with hi | hi
    · go_enter Tryd.func70, Tryd.ntmps70
      go_wp2_with (go_at_call 58; refine HC.out.mono ?_; rintro e w1 ⟨rfl, hw⟩; have HW := hide hw; clear hw)
      all_goals go_ret2
      refine ⟨rfl, ?_⟩
      rcases HW.out with rfl | ⟨t, rfl⟩
      · exact Below.refl _ _
      · exact Lib.bytesWorld_below _ _ _
    · have hj : ¬ n < -1073741824 := by omega
      go_enter Tryd.func70, Tryd.ntmps70
      go_wp2_with (go_at_call 58; refine HC.out.mono ?_; rintro e w1 ⟨rfl, hw⟩; have HW := hide hw; clear hw)
      all_goals go_ret2
      refine ⟨rfl, ?_⟩
      rcases HW.out with rfl | ⟨t, rfl⟩
      · exact Below.refl _ _
      · exact Lib.bytesWorld_below _ _ _
  · have HC := hide (atoi_fails v w hE hv (fun n e => hA ⟨n, e⟩))
    clear hA h
    go_enter Tryd.func70, Tryd.ntmps70
    go_wp2_with (go_at_call 58; refine HC.out.mono ?_; rintro e w1 ⟨n, N, rfl, hw⟩; have HW := hide hw; clear hw)
    all_goals go_ret2
    exact ⟨rfl, HW.out⟩
end Go.Proofs.YtbplfhjpajkcoabDoor
