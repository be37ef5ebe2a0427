/- Pure; Base; Low; Names; Word. -/
import Derived.WalkKit
import Derived.Lib.ItoaNum
import Derived.Shelf.Strconv.AtoiAll
import Derived.Test.YtkmdamljhagogaaDoorProg
import Derived.WalkSpells
import Derived.WalkLawsBesides
import Derived.BigQuiet
import Derived.Deep.AppendLies
import Derived.Deep.RegionLaw
import Derived.Deep.RegionWith
import Derived.Maps.OwnSet
import Derived.Maps.OwnOps
import Derived.Deep.RegionHeld3
import Derived.Maps.Views
import Derived.StringKeys
section
/- Programs as texts, as the document's own answer reads them (zwref1.Parse), as a function of the bytes; what is wrong with their names (no program). -/
namespace Go.Proofs.YtkmdamljhagogaaDoor

abbrev Bs := List UInt8
inductive Ex where
  | mk (k n : Int) (t : Bs) (a : List Ex)
inductive St where
  | mk (k : Int) (t : Bs) (a : List Ex) (x y : List St)
structure Fn where
  t : Bs
  p : List Bs
  b : List St
/-- What was read, what is left, and what is wrong. -/
structure Rd (α : Type) where
  v : α
  l : Bs
  z : Int
abbrev Reader (α : Type) := Bs → Int → Rd α

def blank (c : UInt8) : Bool := c == 32 || c == 10
def ends (c : UInt8) : Bool := c == 32 || c == 10 || c == 40 || c == 41 || c == 39
def skip (l : Bs) : Bs := l.dropWhile blank
def inW (c : UInt8) : Bool := !ends c
def noQ (c : UInt8) : Bool := !(c == 39)
def letter (c : UInt8) : Bool := decide (97 ≤ c.toNat) && decide (c.toNat ≤ 122)
def wordC (c : UInt8) : Bool := decide (32 ≤ c.toNat) && decide (c.toNat ≤ 126) && decide (c.toNat ≠ 39)
/-- The words of the language. -/
def taken : List Bs := [[108, 101, 116], [115, 101, 116], [105, 102], [119, 104, 105, 108, 101], [115, 97, 121], [114, 101, 116, 117, 114, 110], [112, 117, 116, 108], [112, 117, 116, 114], [100, 111], [99, 101, 108, 108], [108, 101, 102, 116], [114, 105, 103, 104, 116], [97, 115, 107], [104, 101, 114, 101], [103, 111]]
def isName (w : Bs) : Bool := !(taken.contains w) && w.all letter && decide (0 < w.length) && decide (w.length < 9)
def isWord (w : Bs) : Bool := w.all wordC && decide (w.length < 13)

def bad (z e : Int) : Int := if z = 0 then e else z
def peekC : Bs → UInt8
  | [] => 0
  | c :: _ => if c = 0 then 1 else c
def must (c : UInt8) : Reader Unit := fun l z =>
  match skip l with
  | [] => ⟨(), [], bad z 8⟩
  | d :: t => if d = c then ⟨(), t, z⟩ else ⟨(), d :: t, bad z 2⟩
def wordZ (m w : Bs) (z : Int) : Int := if w.isEmpty then (if m.isEmpty then bad z 8 else bad z 2) else z
def word : Reader Bs := fun l z => ⟨(skip l).takeWhile inW, (skip l).dropWhile inW, wordZ (skip l) ((skip l).takeWhile inW) z⟩
def name : Reader Bs := fun l z => ⟨(word l z).v, (word l z).l, if isName (word l z).v then (word l z).z else bad (word l z).z 7⟩
/-- Up to a bracket. -/
def until_ {α : Type} (one : Reader α) : Nat → Reader (List α)
  | 0 => fun l z => ⟨[], l, z⟩
  | n + 1 => fun l z =>
    if z = 0 then
      if (skip l).head? = some 41 then ⟨[], (skip l).tail, z⟩
      else
        let r := one (skip l) z
        let q := until_ one n r.l r.z
        ⟨r.v :: q.v, q.l, q.z⟩
    else ⟨[], (must 41 l z).l, (must 41 l z).z⟩
def times {α : Type} (one : Reader α) : Nat → Reader (List α)
  | 0 => fun l z => ⟨[], l, z⟩
  | n + 1 => fun l z =>
    let r := one l z
    let q := times one n r.l r.z
    ⟨r.v :: q.v, q.l, q.z⟩

/-- The number that a word is. -/
def numOf (w : Bs) : Option Int :=
  match Lib.atoiAll w with
  | .ok n => if Lib.itoa n = w then some n else none
  | _ => none
def inInt (n : Int) : Bool := decide (-1073741824 ≤ n) && decide (n ≤ 1073741824)
def ex0 : Ex := .mk 0 0 [] []
def wordE (w : Bs) : Ex :=
  match numOf w with
  | some n => .mk 1 n [] []
  | none => .mk 3 0 w []
def wordEZ (w : Bs) (z : Int) : Int :=
  match numOf w with
  | some n => if inInt n then z else bad z 3
  | none => if isName w then z else bad z 7
/-- Kind, operation, and how many parts (none: a call). -/
def formOf (w : Bs) : Int × Int × Option Nat :=
  if w = [43] then (4, 1, some 2) else if w = [45] then (4, 2, some 2) else if w = [42] then (4, 3, some 2) else if w = [60] then (4, 4, some 2) else if w = [61] then (4, 5, some 2)
  else if w = [99, 101, 108, 108] then (5, 0, some 2) else if w = [108, 101, 102, 116] then (6, 0, some 1) else if w = [114, 105, 103, 104, 116] then (7, 0, some 1) else if w = [97, 115, 107] then (8, 0, some 1)
  else if w = [104, 101, 114, 101] then (9, 0, some 0) else if w = [103, 111] then (10, 0, some 1) else (11, 0, none)
def headE (w : Bs) (xs : List Ex) : Ex := .mk (formOf w).1 (formOf w).2.1 (if (formOf w).2.2 = none then w else []) xs
def headZ (w : Bs) (z : Int) : Int := if (formOf w).2.2 = none ∧ isName w = false then bad z 7 else z
def manyBad (w : Bs) (n : Nat) : Bool :=
  match (formOf w).2.2 with
  | some k => decide (n ≠ k)
  | none => decide (4 < n)
def quoted (t : Bs) (z : Int) : Rd Ex :=
  match t.dropWhile noQ with
  | [] => ⟨.mk 2 0 [] [], t, bad z 8⟩
  | _ :: r => ⟨.mk 2 0 (t.takeWhile noQ) [], r, if isWord (t.takeWhile noQ) then z else bad z 2⟩
def single (l : Bs) (z : Int) : Rd Ex := ⟨wordE (word l z).v, (word l z).l, wordEZ (word l z).v (word l z).z⟩
def formed (args : Reader (List Ex)) (t : Bs) (z : Int) : Rd Ex :=
  let w := word t z
  let a := args w.l (headZ w.v w.z)
  ⟨headE w.v a.v, a.l, if manyBad w.v a.v.length then bad a.z 5 else a.z⟩
/-- With so many levels left. -/
def expr (N : Nat) : Nat → Reader Ex
  | 0 => fun l z => ⟨ex0, l, bad z 9⟩
  | k + 1 => fun l z =>
    if z = 0 then
      match skip l with
      | [] => single [] z
      | c :: t => if c = 39 then quoted t z else if c = 40 then formed (until_ (expr N k) N) t z else single (c :: t) z
    else ⟨ex0, l, z⟩
def st0 : St := .mk 0 [] [] [] []
def kindOf (w : Bs) : Nat :=
  if w = [108, 101, 116] then 1 else if w = [115, 101, 116] then 2 else if w = [105, 102] then 3 else if w = [119, 104, 105, 108, 101] then 4 else if w = [115, 97, 121] then 5 else if w = [114, 101, 116, 117, 114, 110] then 6
  else if w = [112, 117, 116, 108] then 7 else if w = [112, 117, 116, 114] then 8 else if w = [100, 111] then 9 else 0
def argsOf (k : Nat) : Nat := if k = 0 then 0 else if k = 7 ∨ k = 8 then 2 else 1
def optName (k : Nat) : Reader Bs := fun l z => if k = 1 ∨ k = 2 then name l z else ⟨[], l, z⟩
/-- What a statement has behind its expressions. -/
def restP (nest : Reader (List St)) (k : Nat) : Reader (List St × List St) := fun l z =>
  if k = 3 then
    let a := must 40 l z
    let x := nest a.l a.z
    let b := must 40 x.l x.z
    let y := nest b.l b.z
    let c := must 41 y.l y.z
    ⟨(x.v, y.v), c.l, c.z⟩
  else if k = 4 then
    let x := nest l z
    ⟨(x.v, []), x.l, x.z⟩
  else ⟨([], []), (must 41 l z).l, (must 41 l z).z⟩
def parts (e : Reader Ex) (nest : Reader (List St)) (k : Nat) : Reader St := fun l z =>
  let n := optName k l z
  let a := times e (argsOf k) n.l n.z
  let r := restP nest k a.l a.z
  ⟨.mk k n.v a.v r.v.1 r.v.2, r.l, r.z⟩
def stmtP (e : Reader Ex) (nest : Reader (List St)) : Reader St := fun l z =>
  let a := must 40 l z
  let w := word a.l a.z
  parts e nest (kindOf w.v) w.l (if kindOf w.v = 0 then bad w.z 1 else w.z)
def stmt (N : Nat) : Nat → Reader St
  | 0 => fun l z => ⟨st0, l, bad z 9⟩
  | k + 1 => fun l z => if z = 0 then stmtP (expr N k) (until_ (stmt N k) N) l z else ⟨st0, l, z⟩
def fn (N : Nat) : Reader Fn := fun l z =>
  let a := must 40 l z
  let t := name a.l a.z
  let b := must 40 t.l t.z
  let p := until_ name N b.l b.z
  let s := until_ (stmt N 11) N p.l p.z
  ⟨⟨t.v, p.v, s.v⟩, s.l, s.z⟩
def fnsP (N : Nat) : Nat → Reader (List Fn)
  | 0 => fun l z => ⟨[], l, z⟩
  | n + 1 => fun l z =>
    if z = 0 then
      if (skip l).isEmpty then ⟨[], [], z⟩
      else
        let r := fn N (skip l) z
        let q := fnsP N n r.l r.z
        ⟨r.v :: q.v, q.l, q.z⟩
    else ⟨[], l, z⟩

/- What is read gets shorter, or something is wrong. -/
theorem skip_skip (l : Bs) : skip (skip l) = skip l := by
  unfold skip
  induction l with
  | nil => rfl
  | cons c t ih =>
    by_cases h : blank c
    · simp [h, ih]
    · simp [h]
theorem skip_len (l : Bs) : (skip l).length ≤ l.length := (List.dropWhile_sublist _).length_le
theorem bad_ne (z e : Int) (he : e ≠ 0) : bad z e ≠ 0 := by unfold bad; split <;> assumption
theorem bad_of {z e : Int} (hz : z ≠ 0) : bad z e = z := by simp [bad, hz]
theorem bad_zero (e : Int) : bad 0 e = e := rfl
def Small {α : Type} (f : Reader α) : Prop := ∀ l z, (f l z).l.length ≤ l.length
def Keeps {α : Type} (f : Reader α) : Prop := ∀ l z, z ≠ 0 → (f l z).z = z
def Less {α : Type} (f : Reader α) : Prop := ∀ l, (f l 0).z = 0 → (f l 0).l.length < l.length
theorem must_small (c : UInt8) : Small (must c) := by
  intro l z
  have h := skip_len l
  unfold must
  split
  · simp
  · rename_i d t hs
    rw [hs] at h
    simp at h
    split
    · simp; omega
    · simpa using h
theorem must_keeps (c : UInt8) : Keeps (must c) := by
  intro l z hz
  unfold must
  split
  · simp [bad_of hz]
  · split <;> simp [bad_of hz]
theorem must_less (c : UInt8) : Less (must c) := by
  intro l
  have h := skip_len l
  unfold must
  split
  · simp [bad]
  · rename_i d t hs
    rw [hs] at h
    simp at h
    split
    · simp; omega
    · simp [bad]
theorem wordZ_keeps (m w : Bs) {z : Int} (hz : z ≠ 0) : wordZ m w z = z := by
  unfold wordZ; split
  · split <;> simp [bad_of hz]
  · rfl
theorem word_small : Small word := by
  intro l z
  exact Nat.le_trans (List.dropWhile_sublist _).length_le (skip_len l)
theorem word_keeps : Keeps word := fun _ _ hz => wordZ_keeps _ _ hz
theorem word_less : Less word := by
  intro l h
  have h1 := skip_len l
  have h2 : ((skip l).takeWhile inW).length + ((skip l).dropWhile inW).length = (skip l).length := by
    rw [← List.length_append, List.takeWhile_append_dropWhile]
  have h3 : (skip l).takeWhile inW ≠ [] := by
    intro e
    have : wordZ (skip l) ((skip l).takeWhile inW) 0 ≠ 0 := by
      rw [e]; unfold wordZ; simp; split <;> simp [bad]
    exact this h
  have h4 : 0 < ((skip l).takeWhile inW).length := by
    cases hq : (skip l).takeWhile inW with
    | nil => exact absurd hq h3
    | cons a b => simp
  show ((skip l).dropWhile inW).length < l.length
  omega
theorem name_small : Small name := fun l z => word_small l z
theorem name_keeps : Keeps name := by
  intro l z hz
  show (if isName (word l z).v then (word l z).z else bad (word l z).z 7) = z
  rw [word_keeps l z hz]
  split
  · rfl
  · exact bad_of hz
theorem name_less : Less name := by
  intro l h
  refine word_less l ?_
  by_cases h2 : (word l 0).z = 0
  · exact h2
  · exfalso
    revert h
    show (if isName (word l 0).v then (word l 0).z else bad (word l 0).z 7) = 0 → False
    split
    · exact h2
    · rw [bad_of h2]; exact h2
theorem until_small {α : Type} {one : Reader α} (h : Small one) : ∀ n, Small (until_ one n)
  | 0, _, _ => Nat.le_refl _
  | n + 1, l, z => by
    have h1 := skip_len l
    unfold until_
    split
    · split
      · simp; omega
      · have h2 := h (skip l) z
        have h3 := until_small h n (one (skip l) z).l (one (skip l) z).z
        simp only
        omega
    · exact must_small 41 l z
theorem until_keeps {α : Type} {one : Reader α} : ∀ n, Keeps (until_ one n)
  | 0, _, _, _ => rfl
  | n + 1, l, z, hz => by
    unfold until_
    rw [if_neg hz]
    exact must_keeps 41 l z hz
theorem times_small {α : Type} {one : Reader α} (h : Small one) : ∀ n, Small (times one n)
  | 0, _, _ => Nat.le_refl _
  | n + 1, l, z => Nat.le_trans (times_small h n _ _) (h l z)
theorem times_keeps {α : Type} {one : Reader α} (h : Keeps one) : ∀ n, Keeps (times one n)
  | 0, _, _, _ => rfl
  | n + 1, l, z, hz => by
    have h1 := h l z hz
    show (times one n (one l z).l (one l z).z).z = z
    rw [h1]
    exact times_keeps h n _ z hz
theorem times_length {α : Type} {one : Reader α} : ∀ n l z, (times one n l z).v.length = n
  | 0, _, _ => rfl
  | n + 1, l, z => by
    show (_ :: _).length = _
    simp [times_length n]
theorem wordEZ_keeps (w : Bs) {z : Int} (hz : z ≠ 0) : wordEZ w z = z := by
  unfold wordEZ; split <;> split <;> simp [bad_of hz]
theorem headZ_keeps (w : Bs) {z : Int} (hz : z ≠ 0) : headZ w z = z := by
  unfold headZ; split <;> simp [bad_of hz]
theorem quoted_small (t : Bs) (z : Int) : (quoted t z).l.length ≤ t.length := by
  unfold quoted
  split
  · exact Nat.le_refl _
  · rename_i a r h
    have := (List.dropWhile_sublist (l := t) noQ).length_le
    rw [h] at this
    simp at this ⊢
    omega
theorem formed_small {args : Reader (List Ex)} (h : Small args) (t : Bs) (z : Int) : (formed args t z).l.length ≤ t.length :=
  Nat.le_trans (h _ _) (word_small t z)
theorem expr_small (N : Nat) : ∀ k, Small (expr N k)
  | 0, _, _ => Nat.le_refl _
  | k + 1, l, z => by
    have h := skip_len l
    unfold expr
    split
    · split
      · have := word_small [] z
        exact Nat.le_trans this (by simp)
      · rename_i c t hs
        rw [hs] at h
        simp at h
        split
        · have := quoted_small t z; omega
        · split
          · have := formed_small (until_small (expr_small N k) N) t z; omega
          · have := word_small (c :: t) z
            show (word (c :: t) z).l.length ≤ _
            simp at this
            omega
    · exact Nat.le_refl _
theorem expr_keeps (N : Nat) : ∀ k, Keeps (expr N k)
  | 0, _, _, hz => bad_of hz
  | k + 1, l, z, hz => by
    unfold expr
    rw [if_neg hz]
theorem wordEZ_ok {w : Bs} {z : Int} (h : wordEZ w z = 0) : z = 0 := by
  by_cases hz : z = 0
  · exact hz
  · rw [wordEZ_keeps w hz] at h; exact h
theorem expr_less (N : Nat) : ∀ k, Less (expr N k)
  | 0, l => by intro h; exact absurd h (bad_ne 0 9 (by decide))
  | k + 1, l => by
    have h := skip_len l
    unfold expr
    rw [if_pos rfl]
    split
    · intro h1
      have h2 := wordEZ_ok (show wordEZ (word [] 0).v (word [] 0).z = 0 from h1)
      have := word_less [] h2
      simp at this
    · rename_i c t hs
      rw [hs] at h
      simp at h
      split
      · intro _; have := quoted_small t 0; omega
      · split
        · intro _; have := formed_small (until_small (expr_small N k) N) t 0; omega
        · intro h1
          have h2 := word_less (c :: t) (wordEZ_ok (show wordEZ (word (c :: t) 0).v (word (c :: t) 0).z = 0 from h1))
          simp at h2
          show (word (c :: t) 0).l.length < _
          omega
theorem optName_small (k : Nat) : Small (optName k) := by
  intro l z; unfold optName; split
  · exact name_small l z
  · exact Nat.le_refl _
theorem optName_keeps (k : Nat) : Keeps (optName k) := by
  intro l z hz; unfold optName; split
  · exact name_keeps l z hz
  · rfl
theorem rest_small {nest : Reader (List St)} (h : Small nest) (k : Nat) : Small (restP nest k) := by
  intro l z
  unfold restP
  split
  · exact Nat.le_trans (must_small 41 _ _) (Nat.le_trans (h _ _) (Nat.le_trans (must_small 40 _ _) (Nat.le_trans (h _ _) (must_small 40 l z))))
  · split
    · exact h l z
    · exact must_small 41 l z
theorem rest_keeps {nest : Reader (List St)} (h : Keeps nest) (k : Nat) : Keeps (restP nest k) := by
  intro l z hz
  unfold restP
  split
  · have h1 := must_keeps 40 l z hz
    simp only
    rw [h1]
    have h2 := h (must 40 l z).l z hz
    rw [h2]
    have h3 := must_keeps 40 (nest (must 40 l z).l z).l z hz
    rw [h3]
    rw [h _ z hz]
    exact must_keeps 41 _ z hz
  · split
    · exact h l z hz
    · exact must_keeps 41 l z hz
theorem parts_small {e : Reader Ex} {nest : Reader (List St)} (he : Small e) (hn : Small nest) (k : Nat) : Small (parts e nest k) := fun l z =>
  Nat.le_trans (rest_small hn k _ _) (Nat.le_trans (times_small he _ _ _) (optName_small k l z))
theorem parts_keeps {e : Reader Ex} {nest : Reader (List St)} (he : Keeps e) (hn : Keeps nest) (k : Nat) : Keeps (parts e nest k) := by
  intro l z hz
  show (restP nest k (times e (argsOf k) (optName k l z).l (optName k l z).z).l (times e (argsOf k) (optName k l z).l (optName k l z).z).z).z = z
  rw [optName_keeps k l z hz, times_keeps he _ _ z hz, rest_keeps hn k _ z hz]
theorem stmtP_small {e : Reader Ex} {nest : Reader (List St)} (he : Small e) (hn : Small nest) : Small (stmtP e nest) := fun l z =>
  Nat.le_trans (parts_small he hn _ _ _) (Nat.le_trans (word_small _ _) (must_small 40 l z))
theorem stmt_small (N : Nat) : ∀ k, Small (stmt N k)
  | 0, _, _ => Nat.le_refl _
  | k + 1, l, z => by
    unfold stmt
    split
    · exact stmtP_small (expr_small N k) (until_small (stmt_small N k) N) l z
    · exact Nat.le_refl _
theorem stmt_keeps (N : Nat) : ∀ k, Keeps (stmt N k)
  | 0, _, _, hz => bad_of hz
  | k + 1, l, z, hz => by
    unfold stmt
    rw [if_neg hz]
theorem stmt_less (N : Nat) : ∀ k, Less (stmt N k)
  | 0, l => by intro h; exact absurd h (bad_ne 0 9 (by decide))
  | k + 1, l => by
    unfold stmt
    rw [if_pos rfl]
    intro h
    have hk := parts_keeps (expr_keeps N k) (until_keeps (one := stmt N k) N) (kindOf (word (must 40 l 0).l (must 40 l 0).z).v)
    by_cases hm : (must 40 l 0).z = 0
    · have := must_less 40 l hm
      exact Nat.lt_of_le_of_lt (Nat.le_trans (parts_small (expr_small N k) (until_small (stmt_small N k) N) _ _ _) (word_small _ _)) this
    · exfalso
      have hw := word_keeps (must 40 l 0).l _ hm
      have hz : (if kindOf (word (must 40 l 0).l (must 40 l 0).z).v = 0 then bad (word (must 40 l 0).l (must 40 l 0).z).z 1 else (word (must 40 l 0).l (must 40 l 0).z).z) = (must 40 l 0).z := by
        rw [hw]
        split
        · exact bad_of hm
        · rfl
      have h2 := hk (word (must 40 l 0).l (must 40 l 0).z).l (must 40 l 0).z hm
      rw [← hz] at h2
      have h3 : (stmtP (expr N k) (until_ (stmt N k) N) l 0).z = (if kindOf (word (must 40 l 0).l (must 40 l 0).z).v = 0 then bad (word (must 40 l 0).l (must 40 l 0).z).z 1 else (word (must 40 l 0).l (must 40 l 0).z).z) := h2
      rw [h3, hz] at h
      exact hm h
theorem fn_small (N : Nat) : Small (fn N) := fun l z =>
  Nat.le_trans (until_small (stmt_small N 11) N _ _) (Nat.le_trans (until_small name_small N _ _) (Nat.le_trans (must_small 40 _ _) (Nat.le_trans (name_small _ _) (must_small 40 l z))))
theorem fn_less (N : Nat) : Less (fn N) := by
  intro l h
  by_cases hm : (must 40 l 0).z = 0
  · have := must_less 40 l hm
    exact Nat.lt_of_le_of_lt (Nat.le_trans (until_small (stmt_small N 11) N _ _) (Nat.le_trans (until_small name_small N _ _) (Nat.le_trans (must_small 40 _ _) (name_small _ _)))) this
  · exfalso
    have h1 := name_keeps (must 40 l 0).l _ hm
    have h2 : (must 40 (name (must 40 l 0).l (must 40 l 0).z).l (name (must 40 l 0).l (must 40 l 0).z).z).z = (must 40 l 0).z := by rw [h1]; exact must_keeps 40 _ _ hm
    have h3 : (until_ name N (must 40 (name (must 40 l 0).l (must 40 l 0).z).l (name (must 40 l 0).l (must 40 l 0).z).z).l (must 40 (name (must 40 l 0).l (must 40 l 0).z).l (name (must 40 l 0).l (must 40 l 0).z).z).z).z = (must 40 l 0).z := by
      rw [h2]; exact until_keeps N _ _ hm
    have h4 : (fn N l 0).z = (must 40 l 0).z := by
      show (until_ (stmt N 11) N _ (until_ name N (must 40 (name (must 40 l 0).l (must 40 l 0).z).l (name (must 40 l 0).l (must 40 l 0).z).z).l (must 40 (name (must 40 l 0).l (must 40 l 0).z).l (name (must 40 l 0).l (must 40 l 0).z).z).z).z).z = _
      rw [h3]
      exact until_keeps N _ _ hm
    rw [h4] at h
    exact hm h
end Go.Proofs.YtkmdamljhagogaaDoor
end
section
/- Slices as the machine holds them, and what stays as it was. -/
namespace Go.Proofs.YtkmdamljhagogaaDoor
open Go.RowKit

def bs (l : Bs) : ByteArray := ⟨l.toArray⟩
theorem bs_list (l : Bs) : (bs l).data.toList = l := rfl
theorem bs_size (l : Bs) : (bs l).size = l.length := by simp [bs, ByteArray.size]
theorem hide {p : Prop} (h : p) : Hid p := h

/-- The slice v reads as the list l, an element being so many cells. -/
def Sl {α : Type} (enc : α → List Value) (sz : Nat) (w : World) (v : Value) (l : List α) : Prop :=
  ∃ ao cap, v = .slice ao l.length cap ∧ l.length ≤ maxLen ∧ ∀ i x, l[i]? = some x → ∃ b off, ao = some ⟨b, off, none⟩ ∧ b < w.heap.size ∧ ∀ j u, (enc x)[j]? = some u → w.cell? ⟨b, off + i * sz + j, none⟩ = some u

/-- Old blocks but those of S are as they were. -/
structure Fr (S : Nat → Prop) (w w' : World) : Prop where
  os : w'.os = w.os
  tape : w'.tape = w.tape
  output : w'.output = w.output
  size : w.heap.size ≤ w'.heap.size
  block : ∀ k, k < w.heap.size → ¬ S k → w'.heap[k]? = w.heap[k]?

theorem Fr.refl (S : Nat → Prop) (w : World) : Fr S w w := ⟨rfl, rfl, rfl, Nat.le_refl _, fun _ _ _ => rfl⟩
theorem Fr.trans {S : Nat → Prop} {a b c : World} (h : Fr S a b) (k : Fr S b c) : Fr S a c :=
  ⟨k.os.trans h.os, k.tape.trans h.tape, k.output.trans h.output, Nat.le_trans h.size k.size, fun j hj hs => (k.block j (Nat.lt_of_lt_of_le hj h.size) hs).trans (h.block j hj hs)⟩
theorem Fr.mono {S S' : Nat → Prop} {a b : World} (h : Fr S a b) (hs : ∀ k, k < a.heap.size → S k → S' k) : Fr S' a b :=
  ⟨h.os, h.tape, h.output, h.size, fun j hj hn => h.block j hj (fun x => hn (hs j hj x))⟩
theorem Fr.drew {S : Nat → Prop} {a b : World} (h : Fr S a b) : Fr S a b.drew := ⟨h.os, h.tape, h.output, h.size, h.block⟩
theorem Fr.drewN {S : Nat → Prop} {a b : World} (h : Fr S a b) (n : Nat) : Fr S a (b.drewN n) := ⟨h.os, h.tape, h.output, h.size, h.block⟩
theorem Fr.alloc {S : Nat → Prop} {a b : World} (h : Fr S a b) (o : Obj) : Fr S a (b.alloc o) :=
  h.trans ⟨rfl, rfl, rfl, by simp, fun k hk _ => Below.heap_alloc b o k hk⟩
theorem Fr.setCell {S : Nat → Prop} {a b : World} (h : Fr S a b) {p : Addr} (hp : S p.block ∨ a.heap.size ≤ p.block) (u : Value) : Fr S a (b.setCell p u) := by
  refine ⟨h.os, h.tape, h.output, ?_, fun k hk hs => ?_⟩
  · have := h.size; simpa [World.setCell] using this
  · rw [Below.heap_setCell b p u k (by rintro rfl; rcases hp with hp | hp; exact hs hp; omega)]
    exact h.block k hk hs
theorem Fr.grown {S : Nat → Prop} {a b c : World} {row : Option Nat} (h : Fr S a b) (hg : b.grownBy c row) (hr : ∀ k, row = some k → S k ∨ a.heap.size ≤ k) : Fr S a c :=
  ⟨hg.os.trans h.os, hg.tape.trans h.tape, hg.output.trans h.output, Nat.le_trans h.size hg.size, fun k hk hs => by
    rw [hg.block k (Nat.lt_of_lt_of_le hk h.size) (by
      intro e
      rcases hr k e.symm with h1 | h1
      · exact hs h1
      · omega)]
    exact h.block k hk hs⟩
theorem Fr.of_below {B : Nat} {a b : World} (h : Below B a b) (hB : a.heap.size ≤ B) (S : Nat → Prop) : Fr S a b :=
  ⟨h.os, h.tape, h.output, h.size, fun k hk _ => h.block k (Nat.lt_of_lt_of_le hk hB)⟩
theorem Fr.below {S : Nat → Prop} {a b : World} (h : Fr S a b) {B : Nat} (hB : B ≤ a.heap.size) (hs : ∀ k, k < B → ¬ S k) : Below B a b :=
  ⟨h.os, h.tape, h.output, h.size, fun k hk => h.block k (Nat.lt_of_lt_of_le hk hB) (hs k hk)⟩
theorem Fr.cell {S : Nat → Prop} {w w' : World} (h : Fr S w w') {p : Addr} (hp : p.block < w.heap.size) (hs : ¬ S p.block) : w'.cell? p = w.cell? p :=
  World.cell?_of_block (w := w) (h.block p.block hp hs)
theorem Fr.frozen {S : Nat → Prop} {w w' : World} (h : Fr S w w') {p : Addr} (hp : p.block < w.heap.size) (hs : ¬ S p.block) : w'.frozen? p = w.frozen? p :=
  World.frozen?_of_block (w := w) (h.block p.block hp hs)
abbrev nothing : Nat → Prop := fun _ => False

theorem lt_of_cell {w : World} {p : Addr} {v : Value} (h : w.cell? p = some v) : p.block < w.heap.size := by
  unfold World.cell? at h
  rcases Nat.lt_or_ge p.block w.heap.size with h1 | h1
  · exact h1
  · rw [Array.getElem?_eq_none h1] at h; simp at h

theorem Sl.fr {α : Type} {enc : α → List Value} {sz : Nat} {w w' : World} {v : Value} {l : List α} {S : Nat → Prop} (h : Sl enc sz w v l) (hf : Fr S w w')
    (hs : ∀ k, (∃ ao n c, v = .slice (some ao) n c ∧ ao.block = k) → ¬ S k) : Sl enc sz w' v l := by
  obtain ⟨ao, cap, rfl, hm, hc⟩ := h
  refine ⟨ao, cap, rfl, hm, fun i x hx => ?_⟩
  obtain ⟨b, off, rfl, hb, hcell⟩ := hc i x hx
  refine ⟨b, off, rfl, Nat.lt_of_lt_of_le hb hf.size, fun j u hu => ?_⟩
  rw [hf.cell (p := ⟨b, off + i * sz + j, none⟩) hb (hs b ⟨_, _, _, rfl, rfl⟩)]
  exact hcell j u hu
theorem Sl.below {α : Type} {enc : α → List Value} {sz : Nat} {w w' : World} {v : Value} {l : List α} {B : Nat} (h : Sl enc sz w v l) (hf : Below B w w') (hB : w.heap.size ≤ B) : Sl enc sz w' v l :=
  h.fr (Fr.of_below hf hB nothing) (fun _ _ => id)

/-- What the call built by append reads so. -/
theorem flat_length {α : Type} (enc : α → List Value) (sz : Nat) (he : ∀ x, (enc x).length = sz) : ∀ l : List α, (l.flatMap enc).length = l.length * sz
  | [] => by simp
  | x :: l => by simp [List.flatMap_cons, he, flat_length enc sz he l, Nat.add_mul, Nat.add_comm]
theorem flat_get {α : Type} (enc : α → List Value) (sz : Nat) (he : ∀ x, (enc x).length = sz) : ∀ (l : List α) (i : Nat) (x : α) (j : Nat) (u : Value), l[i]? = some x → (enc x)[j]? = some u → (l.flatMap enc)[i * sz + j]? = some u
  | [], i, x, j, u, h, _ => by simp at h
  | y :: l, 0, x, j, u, h, hu => by
    simp at h; subst h
    have hj : j < sz := by rw [← he y]; exact (List.getElem?_eq_some_iff.1 hu).1
    rw [List.flatMap_cons, Nat.zero_mul, Nat.zero_add, List.getElem?_append_left (by rw [he]; exact hj)]
    exact hu
  | y :: l, i + 1, x, j, u, h, hu => by
    rw [List.flatMap_cons, List.getElem?_append_right (by rw [he]; have : (i + 1) * sz = i * sz + sz := Nat.succ_mul i sz; omega), he]
    have h1 := flat_get enc sz he l i x j u (by simpa using h) hu
    rw [show (i + 1) * sz + j - sz = i * sz + j by have : (i + 1) * sz = i * sz + sz := Nat.succ_mul i sz; omega]
    exact h1
theorem sl_of_owns {α : Type} {enc : α → List Value} {sz : Nat} (he : ∀ x, (enc x).length = sz) {w : World} {base : Nat} {e : TypeId} {v : Value} {l : List α}
    (h : w.ownsRow base e sz v l.length (l.flatMap enc)) : Sl enc sz w v l := by
  rcases h.2 with ⟨rfl, h0⟩ | ⟨g, cap, cur, rfl, hb, hg, hn, hc, hs, ht⟩
  · have : l = [] := List.length_eq_zero_iff.1 h0
    subst this
    exact ⟨none, 0, rfl, by unfold maxLen; simp, fun i x hx => by simp at hx⟩
  · refine ⟨some ⟨g, 0, none⟩, cap, rfl, by omega, fun i x hx => ⟨g, 0, rfl, ?_, fun j u hu => ?_⟩⟩
    · rcases Nat.lt_or_ge g w.heap.size with h1 | h1
      · exact h1
      · rw [Array.getElem?_eq_none h1] at hg; cases hg
    · have hlt : i * sz + j < l.length * sz := by
        have h1 : i < l.length := (List.getElem?_eq_some_iff.1 hx).1
        have h2 : j < sz := by rw [← he x]; exact (List.getElem?_eq_some_iff.1 hu).1
        have h3 : (i + 1) * sz ≤ l.length * sz := Nat.mul_le_mul_right sz h1
        have h4 : (i + 1) * sz = i * sz + sz := Nat.succ_mul i sz
        omega
      rw [show 0 + i * sz + j = i * sz + j by omega, h.cellAt _ hlt]
      exact flat_get enc sz he l i x j u hx hu

theorem al2_old {w : World} {O1 O2 : Obj} {b j : Nat} (h : b < w.heap.size) : ((w.alloc O1).alloc O2).cell? ⟨b, j, none⟩ = w.cell? ⟨b, j, none⟩ := by
  rw [World.cell?_alloc_past _ _ _ (by simp; omega), World.cell?_alloc_past _ _ _ h]
theorem al2_oldf {w : World} {O1 O2 : Obj} {b j : Nat} (h : b < w.heap.size) : ((w.alloc O1).alloc O2).frozen? ⟨b, j, none⟩ = w.frozen? ⟨b, j, none⟩ := by
  rw [World.frozen?_alloc_past _ _ _ (by simp; omega), World.frozen?_alloc_past _ _ _ h]
end Go.Proofs.YtkmdamljhagogaaDoor
end
section
/- The reader of the document's own answer: what is wrong, what stands next, brackets. -/
namespace Go.Proofs.YtkmdamljhagogaaDoor
open Go.RowKit

/-- The reader at block rb has l left, and z is wrong. -/
structure Pr (rb : Nat) (l : Bs) (z : Int) (w : World) : Prop where
  s : w.cell? ⟨rb, 0, none⟩ = some (.string (bs l))
  e : w.cell? ⟨rb, 1, none⟩ = some (.int .i64 z)
  f0 : w.frozen? ⟨rb, 0, none⟩ = false
  f1 : w.frozen? ⟨rb, 1, none⟩ = false
  lt : rb < w.heap.size
theorem Pr.fr {rb : Nat} {l : Bs} {z : Int} {w w' : World} {S : Nat → Prop} (h : Pr rb l z w) (hf : Fr S w w') (hs : ¬ S rb) : Pr rb l z w' :=
  ⟨(hf.cell (p := ⟨rb, 0, none⟩) h.lt hs).trans h.s, (hf.cell (p := ⟨rb, 1, none⟩) h.lt hs).trans h.e, (hf.frozen (p := ⟨rb, 0, none⟩) h.lt hs).trans h.f0, (hf.frozen (p := ⟨rb, 1, none⟩) h.lt hs).trans h.f1, Nat.lt_of_lt_of_le h.lt hf.size⟩
theorem Pr.drew {rb : Nat} {l : Bs} {z : Int} {w : World} (h : Pr rb l z w) : Pr rb l z w.drew := ⟨h.s, h.e, h.f0, h.f1, h.lt⟩
theorem Pr.put {rb : Nat} {l : Bs} {z : Int} {w : World} (h : Pr rb l z w) (l' : Bs) : Pr rb l' z (w.setCell ⟨rb, 0, none⟩ (.string (bs l'))) where
  s := World.cell?_setCell_same _ _ _ h.s
  e := (World.cell?_setCell_other w ⟨rb, 0, none⟩ ⟨rb, 1, none⟩ _ (by simp)).trans h.e
  f0 := by rw [World.frozen?_setCell]; exact h.f0
  f1 := by rw [World.frozen?_setCell]; exact h.f1
  lt := by have := h.lt; simpa [World.setCell] using this
theorem Pr.put' {rb : Nat} {l l' : Bs} {z : Int} {w : World} {S : ByteArray} (h : Pr rb l z w) (hS : S = bs l') : Pr rb l' z (w.setCell ⟨rb, 0, none⟩ (.string S)) := hS ▸ h.put l'
theorem Pr.err {rb : Nat} {l : Bs} {z : Int} {w : World} (h : Pr rb l z w) (z' : Int) : Pr rb l z' (w.setCell ⟨rb, 1, none⟩ (.int .i64 z')) where
  s := (World.cell?_setCell_other w ⟨rb, 1, none⟩ ⟨rb, 0, none⟩ _ (by simp)).trans h.s
  e := World.cell?_setCell_same _ _ _ h.e
  f0 := by rw [World.frozen?_setCell]; exact h.f0
  f1 := by rw [World.frozen?_setCell]; exact h.f1
  lt := by have := h.lt; simpa [World.setCell] using this
theorem Pr.unique {rb : Nat} {l l' : Bs} {z z' : Int} {w : World} (h : Pr rb l z w) (h' : Pr rb l' z' w) : l = l' ∧ z = z' := by
  have h1 := h.s.symm.trans h'.s
  have h2 := h.e.symm.trans h'.e
  simp only [Option.some.injEq, Value.string.injEq, Value.int.injEq, true_and] at h1 h2
  refine ⟨?_, h2⟩
  have := congrArg (fun a => a.data.toList) h1
  exact this
abbrev at_ (rb : Nat) : Nat → Prop := fun k => k = rb
/-- How much the reader at rb has left. -/
def lenOf (w : World) (rb : Nat) : Nat :=
  match w.cell? ⟨rb, 0, none⟩ with
  | some (.string s) => s.size
  | _ => 0
theorem Pr.lenOf {rb : Nat} {l : Bs} {z : Int} {w : World} (h : Pr rb l z w) : lenOf w rb = l.length := by
  simp [Go.Proofs.YtkmdamljhagogaaDoor.lenOf, h.s, bs_size]
theorem bs_extract (T : ByteArray) (a b : Nat) : T.extract a b = bs ((T.data.toList.drop a).take (b - a)) := by
  apply ByteArray.ext
  apply Array.toList_inj.1
  simp [bs, ByteArray.data_extract, List.extract_eq_take_drop]
theorem bs_tail (c : UInt8) (t : Bs) {b : Nat} (hb : t.length + 1 ≤ b) : (bs (c :: t)).extract 1 b = bs t := by
  rw [bs_extract, bs_list]
  congr 1
  simp only [List.drop_succ_cons, List.drop_zero]
  exact List.take_of_length_le (by omega)
theorem u8_is (c d : UInt8) (n : Int) (h : (d.toNat : Int) = n) : ((c.toNat : Int) == n) = (c == d) := by
  rw [Bool.eq_iff_iff]
  simp only [beq_iff_eq]
  constructor
  · intro h2
    exact UInt8.toNat_inj.1 (by omega)
  · rintro rfl
    exact h
theorem is32 (c : UInt8) : ((c.toNat : Int) == 32) = (c == 32) := u8_is c 32 32 rfl
theorem is10 (c : UInt8) : ((c.toNat : Int) == 10) = (c == 10) := u8_is c 10 10 rfl
theorem is40 (c : UInt8) : ((c.toNat : Int) == 40) = (c == 40) := u8_is c 40 40 rfl
theorem is41 (c : UInt8) : ((c.toNat : Int) == 41) = (c == 41) := u8_is c 41 41 rfl
theorem is39 (c : UInt8) : ((c.toNat : Int) == 39) = (c == 39) := u8_is c 39 39 rfl
theorem is0 (c : UInt8) : ((c.toNat : Int) == 0) = (c == 0) := u8_is c 0 0 rfl
theorem skip_cons {c : UInt8} {t : Bs} (h : blank c = true) : skip (c :: t) = skip t := by simp [skip, h]
theorem skip_stop {c : UInt8} {t : Bs} (h : blank c = false) : skip (c :: t) = c :: t := by simp [skip, h]
theorem peek_step {rb : Nat} {l : Bs} {z : Int} {w wr : World} {c : UInt8} {t : Bs} {S : ByteArray} (hR : skip (c :: t) = skip l ∧ Pr rb (c :: t) z wr ∧ Fr (at_ rb) w wr) (hS : S = bs t) (hb : blank c = true) (hl : (c :: t).length ≤ 1500) :
    (∃ m, m.length ≤ 1500 ∧ Hid (skip m = skip l ∧ Pr rb m z (wr.setCell ⟨rb, 0, none⟩ (.string S)) ∧ Fr (at_ rb) w (wr.setCell ⟨rb, 0, none⟩ (.string S)))) ∧ lenOf (wr.setCell ⟨rb, 0, none⟩ (.string S)) rb < lenOf wr rb := by
  have h1 := hR.2.1.put' hS
  refine ⟨⟨t, by simp at hl; omega, (skip_cons hb).symm.trans hR.1, h1, hR.2.2.setCell (p := ⟨rb, 0, none⟩) (.inl rfl) _⟩, ?_⟩
  rw [h1.lenOf, hR.2.1.lenOf]
  simp
set_option maxHeartbeats 400000 in
theorem peek_any (rb : Nat) (l : Bs) (z : Int) (w : World) (h : Pr rb l z w) (hl : l.length ≤ 1500) :
    Calls Tryd.prog 18 #[.pointer (some ⟨rb, 0, none⟩)] w fun e w' => e = .returned (.int .u8 (peekC (skip l)).toNat) ∧ Pr rb (skip l) z w' ∧ Fr (at_ rb) w w' := by
  go_enter Tryd.func18, Tryd.ntmps18
  go_wp2
  go_loopw [] (fun wr => ∃ m : Bs, m.length ≤ 1500 ∧ Hid (skip m = skip l ∧ Pr rb m z wr ∧ Fr (at_ rb) w wr)) (fun wr => lenOf wr rb)
  case atStart => exact ⟨l, hl, rfl, h, Fr.refl _ _⟩
  case round =>
    obtain ⟨m, hm, hR⟩ := hrel
    have c0 := hR.out.2.1.s
    have fz := hR.out.2.1.f0
    have hlt := hR.out.2.1.lt
    clear h
    have hsz := bs_size m
    cases m with
    | nil =>
      have hz : ¬ (0 : Int) < ((bs []).size : Int) := by simp [bs_size]
      go_wp2
      go_ret
      have h1 := hR.out.1
      refine ⟨?_, ?_, hR.out.2.2⟩
      · rw [← h1]; rfl
      · rw [← h1]; exact hR.out.2.1
    | cons c t =>
      have hz' : 0 < (bs (c :: t)).size := by rw [hsz]; simp
      have hz : (0 : Int) < ((bs (c :: t)).size : Int) := by omega
      have hc : (bs (c :: t))[0]'hz' = c := rfl
      have hz1 : (1 : Int) ≤ ((bs (c :: t)).size : Int) := by omega
      have hne : ¬ ((bs (c :: t)).size : Int) = 0 := by omega
      have h32 := is32 c
      have h10 := is10 c
      have h0 := is0 c
      by_cases hb : c == 32
      · rw [hb] at h32
        have hbl := hide (show blank c = true by simp [blank, hb])
        go_wp2
        exact peek_step hR.out (bs_tail c t (Nat.le_refl _)) hbl.out hm
      · have hb0 : (c == 32) = false := by simpa using hb
        rw [hb0] at h32
        by_cases hb2 : c == 10
        · rw [hb2] at h10
          have hbl := hide (show blank c = true by simp [blank, hb2])
          go_wp2
          exact peek_step hR.out (bs_tail c t (Nat.le_refl _)) hbl.out hm
        · have hb3 : (c == 10) = false := by simpa using hb2
          rw [hb3] at h10
          have hbl := hide (show blank c = false by simp [blank, hb0, hb3])
          by_cases hb4 : c == 0
          · rw [hb4] at h0
            go_wp2
            go_ret
            have h1 := (skip_stop (t := t) hbl.out).symm.trans hR.out.1
            refine ⟨?_, ?_, hR.out.2.2⟩
            · rw [← h1]
              have : c = 0 := by simpa using hb4
              simp [peekC, this]
            · rw [← h1]; exact hR.out.2.1
          · have hb5 : (c == 0) = false := by simpa using hb4
            rw [hb5] at h0
            go_wp2
            go_ret
            have h1 := (skip_stop (t := t) hbl.out).symm.trans hR.out.1
            refine ⟨?_, ?_, hR.out.2.2⟩
            · rw [← h1]
              have : ¬ c = 0 := by simpa using hb4
              simp [peekC, this]
            · rw [← h1]; exact hR.out.2.1
set_option maxHeartbeats 400000 in
theorem bad_any (rb : Nat) (l : Bs) (z e : Int) (w : World) (h : Pr rb l z w) :
    Calls Tryd.prog 35 #[.pointer (some ⟨rb, 0, none⟩), .int .i64 e] w fun r w' => r = .returned (.tuple #[]) ∧ Pr rb l (bad z e) w' ∧ Fr (at_ rb) w w' := by
  have c1 := h.e
  have f1 := h.f1
  have hlt := h.lt
  have H := hide h
  clear h
  by_cases hz : z = 0
  · have hb : Hid (bad z e = e) := by rw [hz]; rfl
    go_enter Tryd.func35, Tryd.ntmps35
    go_wp2
    go_end0
    refine ⟨rfl, ?_, (Fr.refl (at_ rb) w).setCell (p := ⟨rb, 1, none⟩) (.inl rfl) _⟩
    rw [hb.out]
    exact H.out.err e
  · have hb : Hid (bad z e = z) := bad_of hz
    go_enter Tryd.func35, Tryd.ntmps35
    go_wp2
    go_end0
    refine ⟨rfl, ?_, Fr.refl _ _⟩
    rw [hb.out]
    exact H.out
theorem peekC_nil : peekC [] = 0 := rfl
theorem peekC_ne {d : UInt8} {t : Bs} : peekC (d :: t) ≠ 0 := by
  unfold peekC; dsimp only; split
  · decide
  · assumption
theorem peekC_is {c d : UInt8} {t : Bs} (hc : c ≠ 0 ∧ c ≠ 1) : (peekC (d :: t) = c) = (d = c) := by
  unfold peekC; dsimp only; split
  · rename_i h; subst h
    exact propext ⟨fun h => absurd h.symm hc.2, fun h => absurd h.symm hc.1⟩
  · rfl
theorem u8_ne {c d : UInt8} (h : c ≠ d) : ((c.toNat : Int) == (d.toNat : Int)) = false := by rw [u8_is c d _ rfl]; simpa using h
set_option maxHeartbeats 400000 in
theorem must_any (rb : Nat) (l : Bs) (z : Int) (c : UInt8) (w : World) (h : Pr rb l z w) (hl : l.length ≤ 1500) (hc : c ≠ 0 ∧ c ≠ 1) :
    Calls Tryd.prog 19 #[.pointer (some ⟨rb, 0, none⟩), .int .u8 c.toNat] w fun r w' => r = .returned (.tuple #[]) ∧ Pr rb (must c l z).l (must c l z).z w' ∧ Fr (at_ rb) w w' := by
  have HP := hide (peek_any rb l z w h hl)
  have hsl := skip_len l
  cases hs : skip l with
  | nil =>
    have e1 : must c l z = ⟨(), [], bad z 8⟩ := by unfold must; rw [hs]
    rw [e1]
    rw [hs, show ((peekC []).toNat : Int) = 0 from rfl] at HP
    have hne : ((0 : Int) == (c.toNat : Int)) = false := u8_ne (c := 0) (fun e => hc.1 e.symm)
    clear h hs e1
    go_enter Tryd.func19, Tryd.ntmps19
    go_wp2_with (first
      | (go_at_call 18; refine HP.out.mono ?_; rintro e w1 ⟨rfl, hp, hf⟩; have HB := hide (bad_any rb [] z 8 w1 hp); have HF := hide hf; clear hp hf)
      | (go_at_call 35; refine HB.out.mono ?_; rintro e w2 ⟨rfl, hp, hf⟩; have HP2 := hide hp; have HF2 := hide hf; clear hp hf))
    all_goals go_end0
    all_goals exact ⟨rfl, HP2.out, HF.out.trans HF2.out⟩
  | cons d t =>
    rw [hs] at HP hsl
    simp at hsl
    by_cases hd : d = c
    · have e1 : must c l z = ⟨(), t, z⟩ := by unfold must; rw [hs]; simp [hd]
      rw [e1]
      subst hd
      have e2 : peekC (d :: t) = d := by rw [peekC_is hc]
      rw [e2] at HP
      have hsz := bs_size (d :: t)
      have hz1 : (1 : Int) ≤ ((bs (d :: t)).size : Int) := by rw [hsz]; simp; omega
      clear h hs e1 e2
      go_enter Tryd.func19, Tryd.ntmps19
      go_wp2_with (first
        | (go_at_call 18; refine HP.out.mono ?_; rintro e w1 ⟨rfl, hp, hf⟩; have c0 := hp.s; have f0 := hp.f0; have hlt := hp.lt; have HP2 := hide hp; have HF := hide hf; clear hp hf))
      all_goals go_end0
      exact ⟨rfl, HP2.out.put' (bs_tail d t (Nat.le_refl _)), HF.out.setCell (p := ⟨rb, 0, none⟩) (.inl rfl) _⟩
    · have e1 : must c l z = ⟨(), d :: t, bad z 2⟩ := by unfold must; rw [hs]; simp [hd]
      rw [e1]
      have e2 : peekC (d :: t) ≠ c := fun e => hd ((peekC_is hc) ▸ e)
      have e3 : peekC (d :: t) ≠ 0 := peekC_ne
      generalize peekC (d :: t) = x at *
      have hne := u8_ne e2
      have hne2 : ((x.toNat : Int) == 0) = false := u8_ne e3
      clear h hs e1 e2 e3 hd
      go_enter Tryd.func19, Tryd.ntmps19
      go_wp2_with (first
        | (go_at_call 18; refine HP.out.mono ?_; rintro e w1 ⟨rfl, hp, hf⟩; have HB := hide (bad_any rb _ z 2 w1 hp); have HF := hide hf; clear hp hf)
        | (go_at_call 35; refine HB.out.mono ?_; rintro e w2 ⟨rfl, hp, hf⟩; have HP2 := hide hp; have HF2 := hide hf; clear hp hf))
      all_goals go_end0
      all_goals exact ⟨rfl, HP2.out, HF.out.trans HF2.out⟩
end Go.Proofs.YtkmdamljhagogaaDoor
end
section
/- What is a name, and what a word. -/
namespace Go.Proofs.YtkmdamljhagogaaDoor
open Go.RowKit

theorem all_take {f : UInt8 → Bool} {v : Bs} {k : Nat} (h : (v.take k).all f = true) (hk : k < v.length) {c : UInt8} (hc : v[k] = c) (hf : f c = true) : (v.take (k + 1)).all f = true := by
  rw [List.take_succ_eq_append_getElem hk, List.all_append, h, hc]
  simp [hf]
theorem all_not {f : UInt8 → Bool} {v : Bs} {k : Nat} (hk : k < v.length) {c : UInt8} (hc : v[k] = c) (hf : f c = false) : v.all f = false := by
  rw [List.all_eq_false]
  exact ⟨c, hc ▸ List.getElem_mem hk, by simp [hf]⟩
theorem bs_inj {a b : Bs} (h : bs a = bs b) : a = b := by
  have := congrArg (fun x => x.data.toList) h
  exact this
theorem bs_eq (a b : Bs) : (bs a = bs b) = (a = b) := propext ⟨bs_inj, fun h => h ▸ rfl⟩
theorem bs_toList (a : Bs) : (bs a).toList = a := by rw [ByteArray.toList_eq]; rfl
theorem bs_ne {a b : Bs} (h : ¬ a = b) : ((bs a).toList == (bs b).toList) = false := by rw [bs_toList, bs_toList]; simpa using h
theorem bs_same (a : Bs) : ((bs a).toList == (bs a).toList) = true := by simp
def takenV : Array Value := #[.string ⟨#[108, 101, 116]⟩, .string ⟨#[115, 101, 116]⟩, .string ⟨#[105, 102]⟩, .string ⟨#[119, 104, 105, 108, 101]⟩, .string ⟨#[115, 97, 121]⟩, .string ⟨#[114, 101, 116, 117, 114, 110]⟩, .string ⟨#[112, 117, 116, 108]⟩, .string ⟨#[112, 117, 116, 114]⟩, .string ⟨#[100, 111]⟩, .string ⟨#[99, 101, 108, 108]⟩, .string ⟨#[108, 101, 102, 116]⟩, .string ⟨#[114, 105, 103, 104, 116]⟩, .string ⟨#[97, 115, 107]⟩, .string ⟨#[104, 101, 114, 101]⟩, .string ⟨#[103, 111]⟩]
theorem takenV_get : ∀ k (h : k < taken.length), takenV[k]? = some (.string (bs taken[k])) := by
  intro k h
  have h1 : taken.length = 15 := rfl
  rw [h1] at h
  match k, h with
  | 0, _ => rfl
  | 1, _ => rfl
  | 2, _ => rfl
  | 3, _ => rfl
  | 4, _ => rfl
  | 5, _ => rfl
  | 6, _ => rfl
  | 7, _ => rfl
  | 8, _ => rfl
  | 9, _ => rfl
  | 10, _ => rfl
  | 11, _ => rfl
  | 12, _ => rfl
  | 13, _ => rfl
  | 14, _ => rfl
  | n + 15, h => omega
theorem taken_step {v : Bs} {k : Nat} (h : k < taken.length) (h1 : v ∉ taken.take k) (h2 : ¬ v = taken[k]) : v ∉ taken.take (k + 1) := by
  rw [List.take_succ_eq_append_getElem h, List.mem_append]
  rintro (h3 | h3)
  · exact h1 h3
  · exact h2 (by simpa using h3)
set_option maxHeartbeats 1000000 in
set_option maxRecDepth 20000 in
theorem name_any (v : Bs) (w : World) (hv : v.length ≤ 1500) :
    Calls Tryd.prog 11 #[.string (bs v)] w fun e w' => e = .returned (.bool (isName v)) ∧ Fr nothing w w' := by
  have hsz := bs_size v
  have HN : Hid (isName v = (!(taken.contains v) && v.all letter && decide (0 < v.length) && decide (v.length < 9))) := rfl
  generalize isName v = r at HN ⊢
  go_enter Tryd.func11, Tryd.ntmps11
  go_wp2
  go_loop [8, 4] (fun i _ => ∃ k : Nat, k ≤ 15 ∧ i = .int .i64 k ∧ Hid (v ∉ taken.take k)) (fun i _ => 15 - (intOf i).toNat)
  case atStart => exact ⟨0, Nat.zero_le _, rfl, by simp [Hid]⟩
  case round =>
    obtain ⟨k, hk, rfl, hno⟩ := hrel
    by_cases hlt : k < 15
    · have hkl : k < taken.length := hlt
      have hcell : ∀ T, (w.alloc (.cells takenV T)).cell? ⟨w.heap.size, k, none⟩ = some (.string (bs taken[k])) := fun T => by
        rw [World.cell?_alloc_new]; exact takenV_get k hkl
      unfold takenV at hcell
      have HS : Hid (¬ v = taken[k] → v ∉ taken.take (k + 1)) := fun h2 => taken_step hkl hno.out h2
      have HM : Hid (taken[k] ∈ taken) := List.getElem_mem hkl
      generalize taken[k] = u at hcell HS HM
      by_cases hq : v = u
      · have hr : r = false := by
          rw [HN.out]
          have : v ∈ taken := hq ▸ HM.out
          simp [this]
        subst hr
        subst hq
        go_wp2
        all_goals go_ret
        all_goals exact ⟨rfl, (Fr.refl _ _).alloc _⟩
      · have hq1 := bs_ne hq
        go_wp2
        go_round
        case rel => exact ⟨k + 1, by omega, by go_num, HS.out hq⟩
        case measure => simp [intOf]; omega
    · have hno2 : Hid (taken.contains v = false) := by
        have h1 : k = 15 := by omega
        subst h1
        have := hno.out
        rw [List.take_of_length_le (by decide)] at this
        have h2 : taken.contains v = false := by simpa using this
        exact h2
      clear hno
      go_wp2
      go_loop [18, 5] (fun i _ => ∃ k : Nat, k ≤ v.length ∧ i = .int .i64 k ∧ Hid ((v.take k).all letter = true)) (fun i _ => v.length - (intOf i).toNat)
      case atStart => exact ⟨0, Nat.zero_le _, rfl, rfl⟩
      case round =>
        obtain ⟨j, hj, rfl, hall⟩ := hrel
        by_cases hjl : j < v.length
        · have hz : (j : Int) < ((bs v).size : Int) := by rw [hsz]; omega
          have hz' : j < (bs v).size := by rw [hsz]; omega
          generalize hc : (bs v)[j]'hz' = c
          have HCK : Hid (v[j] = c) := hc
          by_cases h1 : c.toNat < 97
          · have hr : r = false := by rw [HN.out, all_not hjl HCK.out (by simp [letter]; omega)]; simp
            subst hr
            have h2 : (c.toNat : Int) < 97 := by omega
            go_wp2
            all_goals go_ret
            all_goals exact ⟨rfl, (Fr.refl _ _).alloc _⟩
          · have h2 : ¬ (c.toNat : Int) < 97 := by omega
            by_cases h3 : 122 < c.toNat
            · have hr : r = false := by rw [HN.out, all_not hjl HCK.out (by simp [letter]; omega)]; simp
              subst hr
              have h4 : (122 : Int) < (c.toNat : Int) := by omega
              go_wp2
              all_goals go_ret
              all_goals exact ⟨rfl, (Fr.refl _ _).alloc _⟩
            · have h4 : ¬ (122 : Int) < (c.toNat : Int) := by omega
              have HL := hide (all_take hall.out hjl HCK.out (by simp [letter]; omega))
              go_wp2
              go_round
              case rel => exact ⟨j + 1, by omega, by go_num, HL⟩
              case measure => simp [intOf]; omega
        · obtain rfl : j = v.length := by omega
          have hr : r = (decide (0 < v.length) && decide (v.length < 9)) := by
            have := hall.out
            rw [List.take_length] at this
            rw [HN.out, this, hno2.out]
            simp
          subst hr
          clear hall
          by_cases h0 : 0 < v.length
          · by_cases h9 : v.length < 9
            · have g0 : (0 : Int) < (v.length : Int) := by omega
              have g9 : (v.length : Int) < 9 := by omega
              go_wp2
              all_goals go_ret
              all_goals exact ⟨by simp [*], (Fr.refl _ _).alloc _⟩
            · have g0 : (0 : Int) < (v.length : Int) := by omega
              have g9 : ¬ (v.length : Int) < 9 := by omega
              go_wp2
              all_goals go_ret
              all_goals exact ⟨by simp [*], (Fr.refl _ _).alloc _⟩
          · have g0 : ¬ (0 : Int) < (v.length : Int) := by omega
            go_wp2
            all_goals go_ret
            all_goals exact ⟨by simp [*], (Fr.refl _ _).alloc _⟩
set_option maxHeartbeats 400000 in
set_option maxRecDepth 20000 in
theorem isWord_any (v : Bs) (w : World) (hv : v.length ≤ 1500) :
    Calls Tryd.prog 33 #[.string (bs v)] w fun e w' => e = .returned (.bool (isWord v)) ∧ w' = w := by
  have hsz := bs_size v
  have HN : Hid (isWord v = (v.all wordC && decide (v.length < 13))) := rfl
  generalize isWord v = r at HN ⊢
  go_enter Tryd.func33, Tryd.ntmps33
  go_wp2
  go_loop [6, 3] (fun i _ => ∃ k : Nat, k ≤ v.length ∧ i = .int .i64 k ∧ Hid ((v.take k).all wordC = true)) (fun i _ => v.length - (intOf i).toNat)
  case atStart => exact ⟨0, Nat.zero_le _, rfl, rfl⟩
  case round =>
    obtain ⟨k, hk, rfl, hall⟩ := hrel
    by_cases hlt : k < v.length
    · have hz : (k : Int) < ((bs v).size : Int) := by rw [hsz]; omega
      have hz' : k < (bs v).size := by rw [hsz]; omega
      generalize hc : (bs v)[k]'hz' = c
      have HCK : Hid (v[k] = c) := hc
      by_cases h1 : c.toNat < 32
      · have hr : r = false := by rw [HN.out, all_not hlt HCK.out (by simp [wordC]; omega)]; simp
        subst hr
        have h2 : (c.toNat : Int) < 32 := by omega
        go_wp2
        all_goals go_ret
        all_goals exact ⟨rfl, rfl⟩
      · have h2 : ¬ (c.toNat : Int) < 32 := by omega
        by_cases h3 : 126 < c.toNat
        · have hr : r = false := by rw [HN.out, all_not hlt HCK.out (by simp [wordC]; omega)]; simp
          subst hr
          have h4 : (126 : Int) < (c.toNat : Int) := by omega
          go_wp2
          all_goals go_ret
          all_goals exact ⟨rfl, rfl⟩
        · have h4 : ¬ (126 : Int) < (c.toNat : Int) := by omega
          by_cases h5 : c.toNat = 39
          · have hr : r = false := by rw [HN.out, all_not hlt HCK.out (by simp [wordC, h5])]; simp
            subst hr
            have h6 : ((c.toNat : Int) == 39) = true := by simp; omega
            go_wp2
            all_goals go_ret
            all_goals exact ⟨rfl, rfl⟩
          · have h6 : ((c.toNat : Int) == 39) = false := by simp; omega
            have HL := hide (all_take hall.out hlt HCK.out (by simp [wordC, h5]; omega))
            go_wp2
            go_round
            case rel => exact ⟨k + 1, by omega, by go_num, HL⟩
            case measure => simp [intOf]; omega
    · obtain rfl : k = v.length := by omega
      have hr : r = decide (v.length < 13) := by
        have := hall.out
        rw [List.take_length] at this
        rw [HN.out, this]
        simp
      subst hr
      clear hall
      by_cases h9 : v.length < 13
      · have g9 : (v.length : Int) < 13 := by omega
        go_wp2
        all_goals go_ret
        all_goals exact ⟨by simp [*], rfl⟩
      · have g9 : ¬ (v.length : Int) < 13 := by omega
        go_wp2
        all_goals go_ret
        all_goals exact ⟨by simp [*], rfl⟩
end Go.Proofs.YtkmdamljhagogaaDoor
end
section
/- Words and names, read. -/
namespace Go.Proofs.YtkmdamljhagogaaDoor
open Go.RowKit

theorem while_stop {f : UInt8 → Bool} : ∀ {m : Bs} {k : Nat}, (m.take k).all f = true → (∀ c, m[k]? = some c → f c = false) → m.takeWhile f = m.take k ∧ m.dropWhile f = m.drop k
  | [], k, _, _ => by simp
  | c :: t, 0, _, hs => by
    have := hs c rfl
    simp [this]
  | c :: t, k + 1, h, hs => by
    simp only [List.take_succ_cons, List.all_cons, Bool.and_eq_true] at h
    have := while_stop (f := f) (m := t) (k := k) h.2 (fun c hc => hs c (by simpa using hc))
    simp [h.1, this.1, this.2]
theorem bs_take (m : Bs) (k : Nat) : (bs m).extract 0 k = bs (m.take k) := by rw [bs_extract, bs_list]; simp
theorem bs_drop (m : Bs) {k b : Nat} (hb : m.length ≤ b) : (bs m).extract k b = bs (m.drop k) := by
  rw [bs_extract, bs_list]
  congr 1
  exact List.take_of_length_le (by simp; omega)
theorem wordZ_0 (z : Int) : wordZ [] [] z = bad z 8 := rfl
theorem wordZ_1 {m : Bs} (h : m ≠ []) (z : Int) : wordZ m [] z = bad z 2 := by
  cases m with
  | nil => exact absurd rfl h
  | cons c t => rfl
theorem wordZ_2 {m w : Bs} (h : w ≠ []) (z : Int) : wordZ m w z = z := by
  cases w with
  | nil => exact absurd rfl h
  | cons c t => rfl
/-- Behind a word. -/
theorem W_fin {rb : Nat} {m v r : Bs} {z z' : Int} {w w1 w2 : World} {S S2 : ByteArray} (hS : S = bs v) (hS2 : S2 = bs r) (hP : Pr rb m z' w2) (hF1 : Fr (at_ rb) w w1) (hF2 : Fr (at_ rb) w1 w2) (hk : m.takeWhile inW = v ∧ m.dropWhile inW = r) (hz : wordZ m v z = z') :
    Ending.returned (.string S) = Ending.returned (.string (bs (m.takeWhile inW))) ∧ Pr rb (m.dropWhile inW) (wordZ m (m.takeWhile inW) z) (w2.setCell ⟨rb, 0, none⟩ (.string S2)) ∧ Fr (at_ rb) w (w2.setCell ⟨rb, 0, none⟩ (.string S2)) := by
  rw [hk.1, hk.2, hz, hS]
  exact ⟨rfl, hP.put' hS2, (hF1.trans hF2).setCell (p := ⟨rb, 0, none⟩) (.inl rfl) _⟩
theorem u8_no {c d : UInt8} {n : Int} (hn : (d.toNat : Int) = n) (h : (c == d) = false) : ¬ (c.toNat : Int) = n := by
  intro e
  have := u8_is c d n hn
  rw [h] at this
  simp [e] at this
theorem inW_yes {c : UInt8} (h : inW c = true) : ¬ (c.toNat : Int) = 32 ∧ ¬ (c.toNat : Int) = 10 ∧ ¬ (c.toNat : Int) = 40 ∧ ¬ (c.toNat : Int) = 41 ∧ ¬ (c.toNat : Int) = 39 := by
  have hn : ends c = false := by simpa [inW] using h
  simp only [ends, Bool.or_eq_false_iff] at hn
  exact ⟨u8_no (d := 32) rfl hn.1.1.1.1, u8_no (d := 10) rfl hn.1.1.1.2, u8_no (d := 40) rfl hn.1.1.2, u8_no (d := 41) rfl hn.1.2, u8_no (d := 39) rfl hn.2⟩
theorem take_ne {m : Bs} {k : Nat} (h : ¬ k = 0) (hm : 0 < m.length) : m.take k ≠ [] := by
  intro e
  rw [List.take_eq_nil_iff] at e
  rcases e with e | e
  · exact h e
  · subst e; simp at hm
theorem ne_bne {a b : Int} (h : ¬ a = b) : (a != b) = true := by simpa using h
theorem inW_no {c : UInt8} (h : inW c = false) : c = 32 ∨ c = 10 ∨ c = 40 ∨ c = 41 ∨ c = 39 := by
  have : ends c = true := by simpa [inW] using h
  simpa [ends, or_assoc] using this
set_option maxHeartbeats 4000000 in
set_option maxRecDepth 20000 in
theorem word_any (rb : Nat) (l : Bs) (z : Int) (w : World) (h : Pr rb l z w) (hl : l.length ≤ 1500) :
    Calls Tryd.prog 36 #[.pointer (some ⟨rb, 0, none⟩)] w fun e w' => e = .returned (.string (bs (word l z).v)) ∧ Pr rb (word l z).l (word l z).z w' ∧ Fr (at_ rb) w w' := by
  have HP := hide (peek_any rb l z w h hl)
  show Calls Tryd.prog 36 #[.pointer (some ⟨rb, 0, none⟩)] w fun e w' => e = .returned (.string (bs ((skip l).takeWhile inW))) ∧ Pr rb ((skip l).dropWhile inW) (wordZ (skip l) ((skip l).takeWhile inW) z) w' ∧ Fr (at_ rb) w w'
  have hml : (skip l).length ≤ 1500 := Nat.le_trans (skip_len l) hl
  generalize skip l = m at *
  have hsz := bs_size m
  clear h hl
  go_enter Tryd.func36, Tryd.ntmps36
  go_wp2_with (go_at_call 18; refine HP.out.mono ?_; rintro e w1 ⟨rfl, hp, hf⟩; have c0 := hp.s; have c1 := hp.e; have f0 := hp.f0; have hlt := hp.lt; have HP1 := hide hp; have HF1 := hide hf; clear hp hf)
  go_loop [3] (fun i => ∃ k : Nat, k ≤ m.length ∧ i = .int .i64 k ∧ Hid ((m.take k).all inW = true)) (fun i => m.length - (intOf i).toNat)
  case atStart => exact ⟨0, Nat.zero_le _, rfl, rfl⟩
  case round =>
    obtain ⟨k, hk, rfl, hall⟩ := hrel
    have stop : (∀ c, m[k]? = some c → inW c = false) → m.takeWhile inW = m.take k ∧ m.dropWhile inW = m.drop k := while_stop hall.out
    by_cases hkl : k < m.length
    · have hz : (k : Int) < ((bs m).size : Int) := by rw [hsz]; omega
      have hz' : k < (bs m).size := by rw [hsz]; omega
      generalize hc : (bs m)[k]'hz' = c
      have HCK : Hid (m[k] = c) := hc
      have HG : Hid (m[k]? = some c) := by show m[k]? = some c; rw [List.getElem?_eq_getElem hkl]; exact congrArg some HCK.out
      cases hw : inW c with
      | true =>
        obtain ⟨n1, n2, n3, n4, n5⟩ := inW_yes hw
        have b1 := ne_bne n1
        have b2 := ne_bne n2
        have b3 := ne_bne n3
        have b4 := ne_bne n4
        have b5 := ne_bne n5
        have HL := hide (all_take hall.out hkl HCK.out hw)
        clear hw stop
        go_wp2
        go_round
        case rel => exact ⟨k + 1, by omega, by go_num, HL⟩
        case measure => simp [intOf]; omega
      | false =>
        have HST := hide (stop (fun c' h' => by rw [HG.out] at h'; cases h'; exact hw))
        clear stop
        have hmn : m ≠ [] := by intro e; subst e; simp at hkl
        have hm0 : ¬ (m.length : Int) = 0 := by omega
        have key := inW_no hw
        clear hw HG HCK
        by_cases hk0 : k = 0
        · subst hk0
          have HZ := hide (wordZ_1 hmn z)
          have HB := hide (bad_any rb m z 2 w1 HP1.out)
          clear hmn
          rcases key with rfl | rfl | rfl | rfl | rfl
          all_goals
            go_wp2_with (go_at_call 35; refine HB.out.mono ?_; rintro e w2 ⟨rfl, hp, hf⟩; have d0 := hp.s; have g0 := hp.f0; have hlt2 := hp.lt; have HP2 := hide hp; have HF2 := hide hf; clear hp hf)
            go_ret
            exact W_fin (v := []) (r := m) (by first | rfl | (rw [bs_take]; rfl)) (by first | rfl | (rw [bs_drop m (Nat.le_refl _)]; rfl)) HP2.out HF1.out HF2.out (by simpa using HST.out) HZ.out
        · have hk1 : ¬ (k : Int) = 0 := by omega
          have HZ := hide (wordZ_2 (m := m) (w := m.take k) (take_ne hk0 (by omega)) z)
          clear hmn
          rcases key with rfl | rfl | rfl | rfl | rfl
          all_goals
            go_wp2
            go_ret
            exact W_fin (v := m.take k) (r := m.drop k) (bs_take m k) (bs_drop m (Nat.le_refl _)) HP1.out HF1.out (Fr.refl _ _) HST.out HZ.out
    · have hz : ¬ (k : Int) < ((bs m).size : Int) := by rw [hsz]; omega
      have hkm : k = m.length := by omega
      have HST := hide (stop (fun c' h' => by rw [List.getElem?_eq_none (by omega)] at h'; cases h'))
      clear stop hall
      by_cases hk0 : k = 0
      · have hm : m = [] := List.length_eq_zero_iff.1 (by omega)
        subst hm
        subst hk0
        clear hkm hk
        have HB := hide (bad_any rb [] z 8 w1 HP1.out)
        go_wp2_with (go_at_call 35; refine HB.out.mono ?_; rintro e w2 ⟨rfl, hp, hf⟩; have d0 := hp.s; have g0 := hp.f0; have hlt2 := hp.lt; have HP2 := hide hp; have HF2 := hide hf; clear hp hf)
        go_ret
        exact W_fin (v := []) (r := []) (by first | rfl | (rw [bs_take]; rfl)) (by first | rfl | (rw [bs_drop [] (Nat.le_refl _)]; rfl)) HP2.out HF1.out HF2.out (by simp) (wordZ_0 z)
      · have hk1 : ¬ (k : Int) = 0 := by omega
        have hm1 : ¬ (m.length : Int) = 0 := by omega
        have HZ := hide (wordZ_2 (m := m) (w := m.take k) (take_ne hk0 (by omega)) z)
        clear hkm
        go_wp2
        go_ret
        exact W_fin (v := m.take k) (r := m.drop k) (bs_take m k) (bs_drop m (Nat.le_refl _)) HP1.out HF1.out (Fr.refl _ _) HST.out HZ.out
set_option maxHeartbeats 400000 in
theorem nameR_any (rb : Nat) (l : Bs) (z : Int) (w : World) (h : Pr rb l z w) (hl : l.length ≤ 1500) :
    Calls Tryd.prog 20 #[.pointer (some ⟨rb, 0, none⟩)] w fun e w' => e = .returned (.string (bs (name l z).v)) ∧ Pr rb (name l z).l (name l z).z w' ∧ Fr (at_ rb) w w' := by
  have HW := hide (word_any rb l z w h hl)
  have hvl : (word l z).v.length ≤ 1500 := Nat.le_trans (List.takeWhile_sublist _).length_le (Nat.le_trans (skip_len l) hl)
  show Calls Tryd.prog 20 #[.pointer (some ⟨rb, 0, none⟩)] w fun e w' => e = .returned (.string (bs (word l z).v)) ∧ Pr rb (word l z).l (if isName (word l z).v then (word l z).z else bad (word l z).z 7) w' ∧ Fr (at_ rb) w w'
  generalize word l z = q at *
  obtain ⟨v, l', z'⟩ := q
  simp only at *
  have HN := hide (fun w => name_any v w hvl)
  clear h
  cases hq : isName v with
  | true =>
    simp only [if_true]
    simp only [hq] at HN
    go_enter Tryd.func20, Tryd.ntmps20
    go_wp2_with (first
      | (go_at_call 36; refine HW.out.mono ?_; rintro e w1 ⟨rfl, hp, hf⟩; have HP1 := hide hp; have HF1 := hide hf; clear hp hf)
      | (go_at_call 11; refine (HN.out _).mono ?_; rintro e w2 ⟨rfl, hf⟩; have HF2 := hide hf; clear hf))
    go_ret
    exact ⟨rfl, HP1.out.fr HF2.out id, HF1.out.trans (HF2.out.mono (fun _ _ e => e.elim))⟩
  | false =>
    simp only [Bool.false_eq_true, if_false]
    simp only [hq] at HN
    go_enter Tryd.func20, Tryd.ntmps20
    go_wp2_with (first
      | (go_at_call 36; refine HW.out.mono ?_; rintro e w1 ⟨rfl, hp, hf⟩; have HP1 := hide hp; have HF1 := hide hf; clear hp hf)
      | (go_at_call 11; refine (HN.out _).mono ?_; rintro e w2 ⟨rfl, hf⟩; have HB := hide (bad_any rb l' z' 7 w2 (HP1.out.fr hf id)); have HF2 := hide hf; clear hf)
      | (go_at_call 35; refine HB.out.mono ?_; rintro e w3 ⟨rfl, hp, hf⟩; have HP3 := hide hp; have HF3 := hide hf; clear hp hf))
    go_ret
    exact ⟨rfl, HP3.out, (HF1.out.trans (HF2.out.mono (fun _ _ e => e.elim))).trans HF3.out⟩
end Go.Proofs.YtkmdamljhagogaaDoor
end
