/- Numbers as bytes, and back: no program here. -/
import Derived.Lib.VarintBits
import Derived.Lib.Zigzag
namespace Go.Proofs.Ytcfjieebcgpapaa
open Go.Lib

/-- The number that twice as much, or one less, stands for. -/
def unzig (u : Nat) : Int := if u % 2 = 0 then ((u / 2 : Nat) : Int) else -((u / 2 : Nat) : Int) - 1

theorem unzig_zigzag (n : Int) : unzig (zigzag n) = n := by
  unfold unzig zigzag
  by_cases h : 0 ≤ n
  · rw [if_pos h, if_pos (by omega)]; omega
  · rw [if_neg h, if_neg (by omega)]; omega
theorem zigzag_unzig (u : Nat) : zigzag (unzig u) = u := by
  unfold unzig zigzag
  by_cases h : u % 2 = 0
  · rw [if_pos h, if_pos (by omega)]; omega
  · rw [if_neg h, if_neg (by omega)]; omega
theorem unzig_lo {u : Nat} (h : u < 18446744073709551616) : -9223372036854775808 ≤ unzig u := by
  unfold unzig; split <;> omega
theorem unzig_hi {u : Nat} (h : u < 18446744073709551616) : unzig u ≤ 9223372036854775807 := by
  unfold unzig; split <;> omega

/-- What bytes begin with, i of which are read: the number, how many bytes it has, the error. -/
def getB (i acc : Nat) : List UInt8 → Int × Int × Int
  | [] => (0, 0, 8)
  | x :: r =>
    if i = 9 ∧ 1 < x.toNat then (0, 0, 3)
    else if 128 ≤ x.toNat then getB (i + 1) (acc + x.toNat % 128 * 2 ^ (7 * i)) r
    else if x.toNat = 0 ∧ 0 < i then (0, 0, 2)
    else (unzig (acc + x.toNat * 2 ^ (7 * i)), (i : Int) + 1, 0)

theorem pow_step {i : Nat} (h : i < 9) : 2 ^ (64 - 7 * i) = 128 * 2 ^ (64 - 7 * (i + 1)) := by
  rw [show 64 - 7 * i = 7 + (64 - 7 * (i + 1)) by omega, Nat.pow_add]
theorem pow_next (i : Nat) : 2 ^ (7 * (i + 1)) = 128 * 2 ^ (7 * i) := by
  rw [show 7 * (i + 1) = 7 + 7 * i by omega, Nat.pow_add]

theorem small_toNat {u : Nat} (h : u < 256) : u.toUInt8.toNat = u := by
  show u % 256 = u
  omega

/-- THERE, AND BACK. -/
theorem getB_back : ∀ (u i acc : Nat) (b : List UInt8), i ≤ 9 → u < 2 ^ (64 - 7 * i) → (0 < i → 0 < u) →
    getB i acc (uvarint u ++ b) = (unzig (acc + u * 2 ^ (7 * i)), (i : Int) + (uvarint u).length, 0) := by
  intro u
  induction u using Nat.strongRecOn with
  | _ u ih =>
    intro i acc b hi hu h0
    by_cases hs : u < 128
    · rw [uvarint_small hs]
      simp only [List.cons_append, List.nil_append, getB]
      rw [small_toNat (by omega)]
      rw [if_neg (by rintro ⟨rfl, h⟩; have : (2 : Nat) ^ (64 - 7 * 9) = 2 := by decide
                     omega), if_neg (by omega), if_neg (by rintro ⟨e, h⟩; have := h0 h; omega)]
      simp
    · have h9 : i < 9 := by
        rcases Nat.lt_or_ge i 9 with h | h
        · exact h
        · have : i = 9 := by omega
          subst this
          have : (2 : Nat) ^ (64 - 7 * 9) = 2 := by decide
          omega
      rw [uvarint_big (by omega)]
      simp only [List.cons_append, getB]
      rw [small_toNat (by omega), if_neg (by omega), if_pos (by omega)]
      rw [pow_step h9] at hu
      rw [ih (u / 128) (by omega) (i + 1) _ b (by omega) (by omega) (by omega)]
      rw [pow_next]
      have e : acc + (u % 128 + 128) % 128 * 2 ^ (7 * i) + u / 128 * (128 * 2 ^ (7 * i)) = acc + u * 2 ^ (7 * i) := by
        have h1 : (u % 128 + 128) % 128 = u % 128 := by omega
        have h2 : u * 2 ^ (7 * i) = (u % 128) * 2 ^ (7 * i) + (u / 128 * 128) * 2 ^ (7 * i) := by
          rw [← Nat.add_mul]; congr 1; omega
        rw [h1, h2, Nat.mul_assoc (u / 128) 128, Nat.add_assoc]
      rw [e]
      simp only [List.length_cons]
      push_cast
      rw [show (i : Int) + 1 + ((uvarint (u / 128)).length : Int) = i + (((uvarint (u / 128)).length : Int) + 1) by omega]

/-- NO BYTE LESS IS ENOUGH. -/
theorem getB_less : ∀ (u i acc : Nat), i ≤ 9 → u < 2 ^ (64 - 7 * i) → getB i acc ((uvarint u).take ((uvarint u).length - 1)) = (0, 0, 8) := by
  intro u
  induction u using Nat.strongRecOn with
  | _ u ih =>
    intro i acc hi hu
    by_cases hs : u < 128
    · rw [uvarint_small hs]; simp [getB]
    · have h9 : i < 9 := by
        rcases Nat.lt_or_ge i 9 with h | h
        · exact h
        · have : i = 9 := by omega
          subst this
          have : (2 : Nat) ^ (64 - 7 * 9) = 2 := by decide
          omega
      have hp := uvarint_pos (u / 128)
      rw [uvarint_big (by omega), List.length_cons, show (uvarint (u / 128)).length + 1 - 1 = ((uvarint (u / 128)).length - 1) + 1 by omega, List.take_succ_cons]
      simp only [getB]
      rw [small_toNat (by omega), if_neg (by omega), if_pos (by omega)]
      rw [pow_step h9] at hu
      exact ih (u / 128) (by omega) (i + 1) _ (by omega) (by omega)

/-- BYTES THAT ARE A NUMBER'S ARE ITS OWN. -/
theorem getB_own : ∀ (b : List UInt8) (i acc : Nat), i ≤ 9 → (getB i acc b).2.2 = 0 →
    ∃ u k : Nat, getB i acc b = (unzig (acc + u * 2 ^ (7 * i)), (i : Int) + k, 0) ∧ 1 ≤ k ∧ k ≤ b.length ∧ b.take k = uvarint u ∧ u < 2 ^ (64 - 7 * i) ∧ (0 < i → 0 < u)
  | [], i, acc, _, h => by simp [getB] at h
  | x :: r, i, acc, hi, h => by
    have hx := x.toNat_lt
    by_cases h1 : i = 9 ∧ 1 < x.toNat
    · simp [getB, h1] at h
    · by_cases h2 : 128 ≤ x.toNat
      · have e : getB i acc (x :: r) = getB (i + 1) (acc + x.toNat % 128 * 2 ^ (7 * i)) r := by
          simp only [getB]; rw [if_neg h1, if_pos h2]
        have h9 : i < 9 := by omega
        rw [e] at h ⊢
        obtain ⟨u, k, he, hk, hl, ht, hu, hp⟩ := getB_own r (i + 1) _ (by omega) h
        have hp' := hp (by omega)
        refine ⟨x.toNat % 128 + 128 * u, k + 1, ?_, by omega, by simp; omega, ?_, ?_, fun _ => by omega⟩
        · rw [he, pow_next]
          have e2 : acc + x.toNat % 128 * 2 ^ (7 * i) + u * (128 * 2 ^ (7 * i)) = acc + (x.toNat % 128 + 128 * u) * 2 ^ (7 * i) := by
            rw [Nat.add_mul, Nat.mul_comm 128 u, Nat.mul_assoc u 128, Nat.add_assoc]
          rw [e2]
          push_cast
          rw [show (i : Int) + 1 + (k : Int) = i + ((k : Int) + 1) by omega]
        · rw [List.take_succ_cons, ht, uvarint_big (x := x.toNat % 128 + 128 * u) (by omega)]
          rw [show (x.toNat % 128 + 128 * u) / 128 = u by omega, show (x.toNat % 128 + 128 * u) % 128 + 128 = x.toNat by omega]
          simp
        · rw [pow_step h9]; omega
      · by_cases h3 : x.toNat = 0 ∧ 0 < i
        · simp only [getB] at h
          rw [if_neg h1, if_neg h2, if_pos h3] at h
          simp at h
        · refine ⟨x.toNat, 1, ?_, by omega, by simp, ?_, ?_, fun hp => by omega⟩
          · simp only [getB]; rw [if_neg h1, if_neg h2, if_neg h3]; simp
          · rw [uvarint_small (by omega)]; simp
          · rcases Nat.lt_or_ge i 9 with h9 | h9
            · rw [pow_step h9]
              have := Nat.one_le_two_pow (n := 64 - 7 * (i + 1))
              omega
            · have : i = 9 := by omega
              subst this
              have : (2 : Nat) ^ (64 - 7 * 9) = 2 := by decide
              omega

theorem zig_lt {n : Int} (h0 : -9223372036854775808 ≤ n) (h1 : n ≤ 9223372036854775807) : zigzag n < 2 ^ (64 - 7 * 0) := zigzag_lt h0 h1
/-- What GetNum answers of any bytes: beside an error noughts. -/
theorem getB_err : ∀ (b : List UInt8) (i acc : Nat), (getB i acc b).2.2 ≠ 0 → (getB i acc b).1 = 0 ∧ (getB i acc b).2.1 = 0
  | [], i, acc, _ => by simp [getB]
  | x :: r, i, acc, h => by
    simp only [getB] at h ⊢
    split
    · simp
    · rename_i h1
      rw [if_neg h1] at h
      split
      · rename_i h2
        rw [if_pos h2] at h
        exact getB_err r _ _ h
      · rename_i h2
        rw [if_neg h2] at h
        split
        · simp
        · rename_i h3
          rw [if_neg h3] at h
          simp at h
end Go.Proofs.Ytcfjieebcgpapaa
