/- The words of expressions, looked for one by one (no program). -/
import Derived.Test.YtkmdamljhagogaaDoorNames
namespace Go.Proofs.YtkmdamljhagogaaDoor
open Go.RowKit

def ops1 : List Bs := [[43], [45], [42], [60], [61]]
def ops2 : List Bs := [[99, 101, 108, 108], [108, 101, 102, 116], [114, 105, 103, 104, 116], [97, 115, 107], [104, 101, 114, 101], [103, 111]]
def wants2 : List Int := [2, 1, 1, 1, 0, 1]
structure Scan where
  k : Int
  n : Int
  t : Bs
  want : Int
def scan1 (v : Bs) (j : Nat) : Scan := if (ops1.take j).contains v then ⟨4, (ops1.idxOf v : Int) + 1, [], 2⟩ else ⟨11, 0, v, -1⟩
def scan2 (v : Bs) (j : Nat) : Scan := if (ops2.take j).contains v then ⟨5 + (ops2.idxOf v : Int), 0, [], wants2.getD (ops2.idxOf v) 0⟩ else scan1 v 5
def opsV (l : List Bs) : Array Value := (l.map fun v => Value.string (bs v)).toArray
theorem opsV_get (l : List Bs) (k : Nat) (h : k < l.length) : (opsV l)[k]? = some (.string (bs l[k])) := by
  unfold opsV
  rw [List.getElem?_toArray, List.getElem?_map, List.getElem?_eq_getElem h]
  rfl
theorem scan1_0 (v : Bs) : scan1 v 0 = ⟨11, 0, v, -1⟩ := rfl
theorem scan2_0 (v : Bs) : scan2 v 0 = scan1 v 5 := rfl
theorem ops1_idx : ∀ k (h : k < ops1.length), ops1.idxOf (ops1[k]'h) = k
  | 0, _ => rfl
  | 1, _ => rfl
  | 2, _ => rfl
  | 3, _ => rfl
  | 4, _ => rfl
  | n + 5, h => by have : ops1.length = 5 := rfl; omega
theorem ops2_idx : ∀ k (h : k < ops2.length), ops2.idxOf (ops2[k]'h) = k ∧ wants2.getD k 0 = wants2.getD (ops2.idxOf (ops2[k]'h)) 0
  | 0, _ => ⟨rfl, rfl⟩
  | 1, _ => ⟨rfl, rfl⟩
  | 2, _ => ⟨rfl, rfl⟩
  | 3, _ => ⟨rfl, rfl⟩
  | 4, _ => ⟨rfl, rfl⟩
  | 5, _ => ⟨rfl, rfl⟩
  | n + 6, h => by have : ops2.length = 6 := rfl; omega
theorem scan1_hit {k : Nat} (h : k < ops1.length) : scan1 (ops1[k]'h) (k + 1) = ⟨4, (k : Int) + 1, [], 2⟩ := by
  have h1 : (ops1.take (k + 1)).contains (ops1[k]'h) = true := by
    rw [List.take_succ_eq_append_getElem h, List.contains_append]
    simp
  unfold scan1
  rw [h1, ops1_idx k h]
  rfl
theorem scan1_miss {v : Bs} {k : Nat} (h : k < ops1.length) (hv : ¬ v = ops1[k]'h) : scan1 v (k + 1) = scan1 v k := by
  have h1 : (ops1.take (k + 1)).contains v = (ops1.take k).contains v := by
    rw [List.take_succ_eq_append_getElem h]
    simp only [List.contains_append, List.contains_cons, List.contains_nil, Bool.or_false]
    have : (v == ops1[k]'h) = false := by simpa using hv
    rw [this, Bool.or_false]
  unfold scan1
  rw [h1]
theorem scan2_hit {k : Nat} (h : k < ops2.length) : scan2 (ops2[k]'h) (k + 1) = ⟨5 + (k : Int), 0, [], wants2.getD k 0⟩ := by
  have h1 : (ops2.take (k + 1)).contains (ops2[k]'h) = true := by
    rw [List.take_succ_eq_append_getElem h, List.contains_append]
    simp
  unfold scan2
  rw [h1, (ops2_idx k h).1]
  rfl
theorem scan2_miss {v : Bs} {k : Nat} (h : k < ops2.length) (hv : ¬ v = ops2[k]'h) : scan2 v (k + 1) = scan2 v k := by
  have h1 : (ops2.take (k + 1)).contains v = (ops2.take k).contains v := by
    rw [List.take_succ_eq_append_getElem h]
    simp only [List.contains_append, List.contains_cons, List.contains_nil, Bool.or_false]
    have : (v == ops2[k]'h) = false := by simpa using hv
    rw [this, Bool.or_false]
  unfold scan2
  rw [h1]
def wantOf : Option Nat → Int
  | some n => n
  | none => -1
theorem scan2_6 (v : Bs) : scan2 v 6 = ⟨(formOf v).1, (formOf v).2.1, if (formOf v).2.2 = none then v else [], wantOf (formOf v).2.2⟩ := by
  by_cases h0 : v = [43]
  · subst h0; rfl
  by_cases h1 : v = [45]
  · subst h1; rfl
  by_cases h2 : v = [42]
  · subst h2; rfl
  by_cases h3 : v = [60]
  · subst h3; rfl
  by_cases h4 : v = [61]
  · subst h4; rfl
  by_cases h5 : v = [99, 101, 108, 108]
  · subst h5; rfl
  by_cases h6 : v = [108, 101, 102, 116]
  · subst h6; rfl
  by_cases h7 : v = [114, 105, 103, 104, 116]
  · subst h7; rfl
  by_cases h8 : v = [97, 115, 107]
  · subst h8; rfl
  by_cases h9 : v = [104, 101, 114, 101]
  · subst h9; rfl
  by_cases h10 : v = [103, 111]
  · subst h10; rfl
  have e : formOf v = (11, 0, none) := by
    unfold formOf
    rw [if_neg h0, if_neg h1, if_neg h2, if_neg h3, if_neg h4, if_neg h5, if_neg h6, if_neg h7, if_neg h8, if_neg h9, if_neg h10]
  have g1 : (ops1.take 5).contains v = false := by
    rw [List.contains_eq_any_beq, List.any_eq_false]
    intro x hx
    simp only [ops1, List.take_succ_cons, List.take_nil, List.mem_cons, List.not_mem_nil, or_false] at hx
    rcases hx with rfl | rfl | rfl | rfl | rfl <;> simp [*]
  have g2 : (ops2.take 6).contains v = false := by
    rw [List.contains_eq_any_beq, List.any_eq_false]
    intro x hx
    simp only [ops2, List.take_succ_cons, List.take_nil, List.mem_cons, List.not_mem_nil, or_false] at hx
    rcases hx with rfl | rfl | rfl | rfl | rfl | rfl <;> simp [*]
  unfold scan2 scan1
  rw [g1, g2, e]
  rfl
end Go.Proofs.YtkmdamljhagogaaDoor
