/- Pure; Base; Rep0; Spec. -/
import Derived.WalkKit
import Derived.Lib.ItoaNum
import Derived.Shelf.Strconv.AtoiAll
import Derived.Test.YtpemfikdmkmgbaaDoorProg
import Derived.WalkSpells
import Derived.WalkLawsBesides
import Derived.BigQuiet
import Derived.Deep.AppendLies
import Derived.Deep.RegionLaw
import Derived.Deep.RegionWith
import Derived.Maps.OwnSet
import Derived.Maps.OwnOps
import Derived.Deep.RegionHeld3
import Derived.Maps.Views
import Derived.StringKeys
section
/- Programs as texts, as the document's own answer reads them (zwref1.Parse), as a function of the bytes; what is wrong with their names (no program). -/
namespace Go.Proofs.YtpemfikdmkmgbaaDoor

abbrev Bs := List UInt8
inductive Ex where
  | mk (k n : Int) (t : Bs) (a : List Ex)
inductive St where
  | mk (k : Int) (t : Bs) (a : List Ex) (x y : List St)
structure Fn where
  t : Bs
  p : List Bs
  b : List St
/-- What was read, what is left, and what is wrong. -/
structure Rd (α : Type) where
  v : α
  l : Bs
  z : Int
abbrev Reader (α : Type) := Bs → Int → Rd α

def blank (c : UInt8) : Bool := c == 32 || c == 10
def ends (c : UInt8) : Bool := c == 32 || c == 10 || c == 40 || c == 41 || c == 39
def skip (l : Bs) : Bs := l.dropWhile blank
def inW (c : UInt8) : Bool := !ends c
def noQ (c : UInt8) : Bool := !(c == 39)
def letter (c : UInt8) : Bool := decide (97 ≤ c.toNat) && decide (c.toNat ≤ 122)
def wordC (c : UInt8) : Bool := decide (32 ≤ c.toNat) && decide (c.toNat ≤ 126) && decide (c.toNat ≠ 39)
/-- The words of the language. -/
def taken : List Bs := [[108, 101, 116], [115, 101, 116], [105, 102], [119, 104, 105, 108, 101], [115, 97, 121], [114, 101, 116, 117, 114, 110], [112, 117, 116, 108], [112, 117, 116, 114], [100, 111], [99, 101, 108, 108], [108, 101, 102, 116], [114, 105, 103, 104, 116], [97, 115, 107], [104, 101, 114, 101], [103, 111]]
def isName (w : Bs) : Bool := !(taken.contains w) && w.all letter && decide (0 < w.length) && decide (w.length < 9)
def isWord (w : Bs) : Bool := w.all wordC && decide (w.length < 13)

def bad (z e : Int) : Int := if z = 0 then e else z
def peekC : Bs → UInt8
  | [] => 0
  | c :: _ => if c = 0 then 1 else c
def must (c : UInt8) : Reader Unit := fun l z =>
  match skip l with
  | [] => ⟨(), [], bad z 8⟩
  | d :: t => if d = c then ⟨(), t, z⟩ else ⟨(), d :: t, bad z 2⟩
def wordZ (m w : Bs) (z : Int) : Int := if w.isEmpty then (if m.isEmpty then bad z 8 else bad z 2) else z
def word : Reader Bs := fun l z => ⟨(skip l).takeWhile inW, (skip l).dropWhile inW, wordZ (skip l) ((skip l).takeWhile inW) z⟩
def name : Reader Bs := fun l z => ⟨(word l z).v, (word l z).l, if isName (word l z).v then (word l z).z else bad (word l z).z 7⟩
/-- Up to a bracket. -/
def until_ {α : Type} (one : Reader α) : Nat → Reader (List α)
  | 0 => fun l z => ⟨[], l, z⟩
  | n + 1 => fun l z =>
    if z = 0 then
      if (skip l).head? = some 41 then ⟨[], (skip l).tail, z⟩
      else
        let r := one (skip l) z
        let q := until_ one n r.l r.z
        ⟨r.v :: q.v, q.l, q.z⟩
    else ⟨[], (must 41 l z).l, (must 41 l z).z⟩
def times {α : Type} (one : Reader α) : Nat → Reader (List α)
  | 0 => fun l z => ⟨[], l, z⟩
  | n + 1 => fun l z =>
    let r := one l z
    let q := times one n r.l r.z
    ⟨r.v :: q.v, q.l, q.z⟩

/-- The number that a word is. -/
def numOf (w : Bs) : Option Int :=
  match Lib.atoiAll w with
  | .ok n => if Lib.itoa n = w then some n else none
  | _ => none
def inInt (n : Int) : Bool := decide (-1073741824 ≤ n) && decide (n ≤ 1073741824)
def ex0 : Ex := .mk 0 0 [] []
def wordE (w : Bs) : Ex :=
  match numOf w with
  | some n => .mk 1 n [] []
  | none => .mk 3 0 w []
def wordEZ (w : Bs) (z : Int) : Int :=
  match numOf w with
  | some n => if inInt n then z else bad z 3
  | none => if isName w then z else bad z 7
/-- Kind, operation, and how many parts (none: a call). -/
def formOf (w : Bs) : Int × Int × Option Nat :=
  if w = [43] then (4, 1, some 2) else if w = [45] then (4, 2, some 2) else if w = [42] then (4, 3, some 2) else if w = [60] then (4, 4, some 2) else if w = [61] then (4, 5, some 2)
  else if w = [99, 101, 108, 108] then (5, 0, some 2) else if w = [108, 101, 102, 116] then (6, 0, some 1) else if w = [114, 105, 103, 104, 116] then (7, 0, some 1) else if w = [97, 115, 107] then (8, 0, some 1)
  else if w = [104, 101, 114, 101] then (9, 0, some 0) else if w = [103, 111] then (10, 0, some 1) else (11, 0, none)
def headE (w : Bs) (xs : List Ex) : Ex := .mk (formOf w).1 (formOf w).2.1 (if (formOf w).2.2 = none then w else []) xs
def headZ (w : Bs) (z : Int) : Int := if (formOf w).2.2 = none ∧ isName w = false then bad z 7 else z
def manyBad (w : Bs) (n : Nat) : Bool :=
  match (formOf w).2.2 with
  | some k => decide (n ≠ k)
  | none => decide (4 < n)
def quoted (t : Bs) (z : Int) : Rd Ex :=
  match t.dropWhile noQ with
  | [] => ⟨.mk 2 0 [] [], t, bad z 8⟩
  | _ :: r => ⟨.mk 2 0 (t.takeWhile noQ) [], r, if isWord (t.takeWhile noQ) then z else bad z 2⟩
def single (l : Bs) (z : Int) : Rd Ex := ⟨wordE (word l z).v, (word l z).l, wordEZ (word l z).v (word l z).z⟩
def formed (args : Reader (List Ex)) (t : Bs) (z : Int) : Rd Ex :=
  let w := word t z
  let a := args w.l (headZ w.v w.z)
  ⟨headE w.v a.v, a.l, if manyBad w.v a.v.length then bad a.z 5 else a.z⟩
/-- With so many levels left. -/
def expr (N : Nat) : Nat → Reader Ex
  | 0 => fun l z => ⟨ex0, l, bad z 9⟩
  | k + 1 => fun l z =>
    if z = 0 then
      match skip l with
      | [] => single [] z
      | c :: t => if c = 39 then quoted t z else if c = 40 then formed (until_ (expr N k) N) t z else single (c :: t) z
    else ⟨ex0, l, z⟩
def st0 : St := .mk 0 [] [] [] []
def kindOf (w : Bs) : Nat :=
  if w = [108, 101, 116] then 1 else if w = [115, 101, 116] then 2 else if w = [105, 102] then 3 else if w = [119, 104, 105, 108, 101] then 4 else if w = [115, 97, 121] then 5 else if w = [114, 101, 116, 117, 114, 110] then 6
  else if w = [112, 117, 116, 108] then 7 else if w = [112, 117, 116, 114] then 8 else if w = [100, 111] then 9 else 0
def argsOf (k : Nat) : Nat := if k = 0 then 0 else if k = 7 ∨ k = 8 then 2 else 1
def optName (k : Nat) : Reader Bs := fun l z => if k = 1 ∨ k = 2 then name l z else ⟨[], l, z⟩
/-- What a statement has behind its expressions. -/
def restP (nest : Reader (List St)) (k : Nat) : Reader (List St × List St) := fun l z =>
  if k = 3 then
    let a := must 40 l z
    let x := nest a.l a.z
    let b := must 40 x.l x.z
    let y := nest b.l b.z
    let c := must 41 y.l y.z
    ⟨(x.v, y.v), c.l, c.z⟩
  else if k = 4 then
    let x := nest l z
    ⟨(x.v, []), x.l, x.z⟩
  else ⟨([], []), (must 41 l z).l, (must 41 l z).z⟩
def parts (e : Reader Ex) (nest : Reader (List St)) (k : Nat) : Reader St := fun l z =>
  let n := optName k l z
  let a := times e (argsOf k) n.l n.z
  let r := restP nest k a.l a.z
  ⟨.mk k n.v a.v r.v.1 r.v.2, r.l, r.z⟩
def stmtP (e : Reader Ex) (nest : Reader (List St)) : Reader St := fun l z =>
  let a := must 40 l z
  let w := word a.l a.z
  parts e nest (kindOf w.v) w.l (if kindOf w.v = 0 then bad w.z 1 else w.z)
def stmt (N : Nat) : Nat → Reader St
  | 0 => fun l z => ⟨st0, l, bad z 9⟩
  | k + 1 => fun l z => if z = 0 then stmtP (expr N k) (until_ (stmt N k) N) l z else ⟨st0, l, z⟩
def fn (N : Nat) : Reader Fn := fun l z =>
  let a := must 40 l z
  let t := name a.l a.z
  let b := must 40 t.l t.z
  let p := until_ name N b.l b.z
  let s := until_ (stmt N 11) N p.l p.z
  ⟨⟨t.v, p.v, s.v⟩, s.l, s.z⟩
def fnsP (N : Nat) : Nat → Reader (List Fn)
  | 0 => fun l z => ⟨[], l, z⟩
  | n + 1 => fun l z =>
    if z = 0 then
      if (skip l).isEmpty then ⟨[], [], z⟩
      else
        let r := fn N (skip l) z
        let q := fnsP N n r.l r.z
        ⟨r.v :: q.v, q.l, q.z⟩
    else ⟨[], l, z⟩

/- What is read gets shorter, or something is wrong. -/
theorem skip_skip (l : Bs) : skip (skip l) = skip l := by
  unfold skip
  induction l with
  | nil => rfl
  | cons c t ih =>
    by_cases h : blank c
    · simp [h, ih]
    · simp [h]
theorem skip_len (l : Bs) : (skip l).length ≤ l.length := (List.dropWhile_sublist _).length_le
theorem bad_ne (z e : Int) (he : e ≠ 0) : bad z e ≠ 0 := by unfold bad; split <;> assumption
theorem bad_of {z e : Int} (hz : z ≠ 0) : bad z e = z := by simp [bad, hz]
theorem bad_zero (e : Int) : bad 0 e = e := rfl
def Small {α : Type} (f : Reader α) : Prop := ∀ l z, (f l z).l.length ≤ l.length
def Keeps {α : Type} (f : Reader α) : Prop := ∀ l z, z ≠ 0 → (f l z).z = z
def Less {α : Type} (f : Reader α) : Prop := ∀ l, (f l 0).z = 0 → (f l 0).l.length < l.length
theorem must_small (c : UInt8) : Small (must c) := by
  intro l z
  have h := skip_len l
  unfold must
  split
  · simp
  · rename_i d t hs
    rw [hs] at h
    simp at h
    split
    · simp; omega
    · simpa using h
theorem must_keeps (c : UInt8) : Keeps (must c) := by
  intro l z hz
  unfold must
  split
  · simp [bad_of hz]
  · split <;> simp [bad_of hz]
theorem must_less (c : UInt8) : Less (must c) := by
  intro l
  have h := skip_len l
  unfold must
  split
  · simp [bad]
  · rename_i d t hs
    rw [hs] at h
    simp at h
    split
    · simp; omega
    · simp [bad]
theorem wordZ_keeps (m w : Bs) {z : Int} (hz : z ≠ 0) : wordZ m w z = z := by
  unfold wordZ; split
  · split <;> simp [bad_of hz]
  · rfl
theorem word_small : Small word := by
  intro l z
  exact Nat.le_trans (List.dropWhile_sublist _).length_le (skip_len l)
theorem word_keeps : Keeps word := fun _ _ hz => wordZ_keeps _ _ hz
theorem word_less : Less word := by
  intro l h
  have h1 := skip_len l
  have h2 : ((skip l).takeWhile inW).length + ((skip l).dropWhile inW).length = (skip l).length := by
    rw [← List.length_append, List.takeWhile_append_dropWhile]
  have h3 : (skip l).takeWhile inW ≠ [] := by
    intro e
    have : wordZ (skip l) ((skip l).takeWhile inW) 0 ≠ 0 := by
      rw [e]; unfold wordZ; simp; split <;> simp [bad]
    exact this h
  have h4 : 0 < ((skip l).takeWhile inW).length := by
    cases hq : (skip l).takeWhile inW with
    | nil => exact absurd hq h3
    | cons a b => simp
  show ((skip l).dropWhile inW).length < l.length
  omega
theorem name_small : Small name := fun l z => word_small l z
theorem name_keeps : Keeps name := by
  intro l z hz
  show (if isName (word l z).v then (word l z).z else bad (word l z).z 7) = z
  rw [word_keeps l z hz]
  split
  · rfl
  · exact bad_of hz
theorem name_less : Less name := by
  intro l h
  refine word_less l ?_
  by_cases h2 : (word l 0).z = 0
  · exact h2
  · exfalso
    revert h
    show (if isName (word l 0).v then (word l 0).z else bad (word l 0).z 7) = 0 → False
    split
    · exact h2
    · rw [bad_of h2]; exact h2
theorem until_small {α : Type} {one : Reader α} (h : Small one) : ∀ n, Small (until_ one n)
  | 0, _, _ => Nat.le_refl _
  | n + 1, l, z => by
    have h1 := skip_len l
    unfold until_
    split
    · split
      · simp; omega
      · have h2 := h (skip l) z
        have h3 := until_small h n (one (skip l) z).l (one (skip l) z).z
        simp only
        omega
    · exact must_small 41 l z
theorem until_keeps {α : Type} {one : Reader α} : ∀ n, Keeps (until_ one n)
  | 0, _, _, _ => rfl
  | n + 1, l, z, hz => by
    unfold until_
    rw [if_neg hz]
    exact must_keeps 41 l z hz
theorem times_small {α : Type} {one : Reader α} (h : Small one) : ∀ n, Small (times one n)
  | 0, _, _ => Nat.le_refl _
  | n + 1, l, z => Nat.le_trans (times_small h n _ _) (h l z)
theorem times_keeps {α : Type} {one : Reader α} (h : Keeps one) : ∀ n, Keeps (times one n)
  | 0, _, _, _ => rfl
  | n + 1, l, z, hz => by
    have h1 := h l z hz
    show (times one n (one l z).l (one l z).z).z = z
    rw [h1]
    exact times_keeps h n _ z hz
theorem times_length {α : Type} {one : Reader α} : ∀ n l z, (times one n l z).v.length = n
  | 0, _, _ => rfl
  | n + 1, l, z => by
    show (_ :: _).length = _
    simp [times_length n]
theorem wordEZ_keeps (w : Bs) {z : Int} (hz : z ≠ 0) : wordEZ w z = z := by
  unfold wordEZ; split <;> split <;> simp [bad_of hz]
theorem headZ_keeps (w : Bs) {z : Int} (hz : z ≠ 0) : headZ w z = z := by
  unfold headZ; split <;> simp [bad_of hz]
theorem quoted_small (t : Bs) (z : Int) : (quoted t z).l.length ≤ t.length := by
  unfold quoted
  split
  · exact Nat.le_refl _
  · rename_i a r h
    have := (List.dropWhile_sublist (l := t) noQ).length_le
    rw [h] at this
    simp at this ⊢
    omega
theorem formed_small {args : Reader (List Ex)} (h : Small args) (t : Bs) (z : Int) : (formed args t z).l.length ≤ t.length :=
  Nat.le_trans (h _ _) (word_small t z)
theorem expr_small (N : Nat) : ∀ k, Small (expr N k)
  | 0, _, _ => Nat.le_refl _
  | k + 1, l, z => by
    have h := skip_len l
    unfold expr
    split
    · split
      · have := word_small [] z
        exact Nat.le_trans this (by simp)
      · rename_i c t hs
        rw [hs] at h
        simp at h
        split
        · have := quoted_small t z; omega
        · split
          · have := formed_small (until_small (expr_small N k) N) t z; omega
          · have := word_small (c :: t) z
            show (word (c :: t) z).l.length ≤ _
            simp at this
            omega
    · exact Nat.le_refl _
theorem expr_keeps (N : Nat) : ∀ k, Keeps (expr N k)
  | 0, _, _, hz => bad_of hz
  | k + 1, l, z, hz => by
    unfold expr
    rw [if_neg hz]
theorem wordEZ_ok {w : Bs} {z : Int} (h : wordEZ w z = 0) : z = 0 := by
  by_cases hz : z = 0
  · exact hz
  · rw [wordEZ_keeps w hz] at h; exact h
theorem expr_less (N : Nat) : ∀ k, Less (expr N k)
  | 0, l => by intro h; exact absurd h (bad_ne 0 9 (by decide))
  | k + 1, l => by
    have h := skip_len l
    unfold expr
    rw [if_pos rfl]
    split
    · intro h1
      have h2 := wordEZ_ok (show wordEZ (word [] 0).v (word [] 0).z = 0 from h1)
      have := word_less [] h2
      simp at this
    · rename_i c t hs
      rw [hs] at h
      simp at h
      split
      · intro _; have := quoted_small t 0; omega
      · split
        · intro _; have := formed_small (until_small (expr_small N k) N) t 0; omega
        · intro h1
          have h2 := word_less (c :: t) (wordEZ_ok (show wordEZ (word (c :: t) 0).v (word (c :: t) 0).z = 0 from h1))
          simp at h2
          show (word (c :: t) 0).l.length < _
          omega
theorem optName_small (k : Nat) : Small (optName k) := by
  intro l z; unfold optName; split
  · exact name_small l z
  · exact Nat.le_refl _
theorem optName_keeps (k : Nat) : Keeps (optName k) := by
  intro l z hz; unfold optName; split
  · exact name_keeps l z hz
  · rfl
theorem rest_small {nest : Reader (List St)} (h : Small nest) (k : Nat) : Small (restP nest k) := by
  intro l z
  unfold restP
  split
  · exact Nat.le_trans (must_small 41 _ _) (Nat.le_trans (h _ _) (Nat.le_trans (must_small 40 _ _) (Nat.le_trans (h _ _) (must_small 40 l z))))
  · split
    · exact h l z
    · exact must_small 41 l z
theorem rest_keeps {nest : Reader (List St)} (h : Keeps nest) (k : Nat) : Keeps (restP nest k) := by
  intro l z hz
  unfold restP
  split
  · have h1 := must_keeps 40 l z hz
    simp only
    rw [h1]
    have h2 := h (must 40 l z).l z hz
    rw [h2]
    have h3 := must_keeps 40 (nest (must 40 l z).l z).l z hz
    rw [h3]
    rw [h _ z hz]
    exact must_keeps 41 _ z hz
  · split
    · exact h l z hz
    · exact must_keeps 41 l z hz
theorem parts_small {e : Reader Ex} {nest : Reader (List St)} (he : Small e) (hn : Small nest) (k : Nat) : Small (parts e nest k) := fun l z =>
  Nat.le_trans (rest_small hn k _ _) (Nat.le_trans (times_small he _ _ _) (optName_small k l z))
theorem parts_keeps {e : Reader Ex} {nest : Reader (List St)} (he : Keeps e) (hn : Keeps nest) (k : Nat) : Keeps (parts e nest k) := by
  intro l z hz
  show (restP nest k (times e (argsOf k) (optName k l z).l (optName k l z).z).l (times e (argsOf k) (optName k l z).l (optName k l z).z).z).z = z
  rw [optName_keeps k l z hz, times_keeps he _ _ z hz, rest_keeps hn k _ z hz]
theorem stmtP_small {e : Reader Ex} {nest : Reader (List St)} (he : Small e) (hn : Small nest) : Small (stmtP e nest) := fun l z =>
  Nat.le_trans (parts_small he hn _ _ _) (Nat.le_trans (word_small _ _) (must_small 40 l z))
theorem stmt_small (N : Nat) : ∀ k, Small (stmt N k)
  | 0, _, _ => Nat.le_refl _
  | k + 1, l, z => by
    unfold stmt
    split
    · exact stmtP_small (expr_small N k) (until_small (stmt_small N k) N) l z
    · exact Nat.le_refl _
theorem stmt_keeps (N : Nat) : ∀ k, Keeps (stmt N k)
  | 0, _, _, hz => bad_of hz
  | k + 1, l, z, hz => by
    unfold stmt
    rw [if_neg hz]
theorem stmt_less (N : Nat) : ∀ k, Less (stmt N k)
  | 0, l => by intro h; exact absurd h (bad_ne 0 9 (by decide))
  | k + 1, l => by
    unfold stmt
    rw [if_pos rfl]
    intro h
    have hk := parts_keeps (expr_keeps N k) (until_keeps (one := stmt N k) N) (kindOf (word (must 40 l 0).l (must 40 l 0).z).v)
    by_cases hm : (must 40 l 0).z = 0
    · have := must_less 40 l hm
      exact Nat.lt_of_le_of_lt (Nat.le_trans (parts_small (expr_small N k) (until_small (stmt_small N k) N) _ _ _) (word_small _ _)) this
    · exfalso
      have hw := word_keeps (must 40 l 0).l _ hm
      have hz : (if kindOf (word (must 40 l 0).l (must 40 l 0).z).v = 0 then bad (word (must 40 l 0).l (must 40 l 0).z).z 1 else (word (must 40 l 0).l (must 40 l 0).z).z) = (must 40 l 0).z := by
        rw [hw]
        split
        · exact bad_of hm
        · rfl
      have h2 := hk (word (must 40 l 0).l (must 40 l 0).z).l (must 40 l 0).z hm
      rw [← hz] at h2
      have h3 : (stmtP (expr N k) (until_ (stmt N k) N) l 0).z = (if kindOf (word (must 40 l 0).l (must 40 l 0).z).v = 0 then bad (word (must 40 l 0).l (must 40 l 0).z).z 1 else (word (must 40 l 0).l (must 40 l 0).z).z) := h2
      rw [h3, hz] at h
      exact hm h
theorem fn_small (N : Nat) : Small (fn N) := fun l z =>
  Nat.le_trans (until_small (stmt_small N 11) N _ _) (Nat.le_trans (until_small name_small N _ _) (Nat.le_trans (must_small 40 _ _) (Nat.le_trans (name_small _ _) (must_small 40 l z))))
theorem fn_less (N : Nat) : Less (fn N) := by
  intro l h
  by_cases hm : (must 40 l 0).z = 0
  · have := must_less 40 l hm
    exact Nat.lt_of_le_of_lt (Nat.le_trans (until_small (stmt_small N 11) N _ _) (Nat.le_trans (until_small name_small N _ _) (Nat.le_trans (must_small 40 _ _) (name_small _ _)))) this
  · exfalso
    have h1 := name_keeps (must 40 l 0).l _ hm
    have h2 : (must 40 (name (must 40 l 0).l (must 40 l 0).z).l (name (must 40 l 0).l (must 40 l 0).z).z).z = (must 40 l 0).z := by rw [h1]; exact must_keeps 40 _ _ hm
    have h3 : (until_ name N (must 40 (name (must 40 l 0).l (must 40 l 0).z).l (name (must 40 l 0).l (must 40 l 0).z).z).l (must 40 (name (must 40 l 0).l (must 40 l 0).z).l (name (must 40 l 0).l (must 40 l 0).z).z).z).z = (must 40 l 0).z := by
      rw [h2]; exact until_keeps N _ _ hm
    have h4 : (fn N l 0).z = (must 40 l 0).z := by
      show (until_ (stmt N 11) N _ (until_ name N (must 40 (name (must 40 l 0).l (must 40 l 0).z).l (name (must 40 l 0).l (must 40 l 0).z).z).l (must 40 (name (must 40 l 0).l (must 40 l 0).z).l (name (must 40 l 0).l (must 40 l 0).z).z).z).z).z = _
      rw [h3]
      exact until_keeps N _ _ hm
    rw [h4] at h
    exact hm h
end Go.Proofs.YtpemfikdmkmgbaaDoor
end
section
/- Slices as the machine holds them, and what stays as it was. -/
namespace Go.Proofs.YtpemfikdmkmgbaaDoor
open Go.RowKit

def bs (l : Bs) : ByteArray := ⟨l.toArray⟩
theorem bs_list (l : Bs) : (bs l).data.toList = l := rfl
theorem bs_size (l : Bs) : (bs l).size = l.length := by simp [bs, ByteArray.size]
theorem hide {p : Prop} (h : p) : Hid p := h

/-- The slice v reads as the list l, an element being so many cells. -/
def Sl {α : Type} (enc : α → List Value) (sz : Nat) (w : World) (v : Value) (l : List α) : Prop :=
  ∃ ao cap, v = .slice ao l.length cap ∧ l.length ≤ maxLen ∧ ∀ i x, l[i]? = some x → ∃ b off, ao = some ⟨b, off, none⟩ ∧ b < w.heap.size ∧ ∀ j u, (enc x)[j]? = some u → w.cell? ⟨b, off + i * sz + j, none⟩ = some u

/-- Old blocks but those of S are as they were. -/
structure Fr (S : Nat → Prop) (w w' : World) : Prop where
  os : w'.os = w.os
  tape : w'.tape = w.tape
  output : w'.output = w.output
  size : w.heap.size ≤ w'.heap.size
  block : ∀ k, k < w.heap.size → ¬ S k → w'.heap[k]? = w.heap[k]?

theorem Fr.refl (S : Nat → Prop) (w : World) : Fr S w w := ⟨rfl, rfl, rfl, Nat.le_refl _, fun _ _ _ => rfl⟩
theorem Fr.trans {S : Nat → Prop} {a b c : World} (h : Fr S a b) (k : Fr S b c) : Fr S a c :=
  ⟨k.os.trans h.os, k.tape.trans h.tape, k.output.trans h.output, Nat.le_trans h.size k.size, fun j hj hs => (k.block j (Nat.lt_of_lt_of_le hj h.size) hs).trans (h.block j hj hs)⟩
theorem Fr.mono {S S' : Nat → Prop} {a b : World} (h : Fr S a b) (hs : ∀ k, k < a.heap.size → S k → S' k) : Fr S' a b :=
  ⟨h.os, h.tape, h.output, h.size, fun j hj hn => h.block j hj (fun x => hn (hs j hj x))⟩
theorem Fr.drew {S : Nat → Prop} {a b : World} (h : Fr S a b) : Fr S a b.drew := ⟨h.os, h.tape, h.output, h.size, h.block⟩
theorem Fr.drewN {S : Nat → Prop} {a b : World} (h : Fr S a b) (n : Nat) : Fr S a (b.drewN n) := ⟨h.os, h.tape, h.output, h.size, h.block⟩
theorem Fr.alloc {S : Nat → Prop} {a b : World} (h : Fr S a b) (o : Obj) : Fr S a (b.alloc o) :=
  h.trans ⟨rfl, rfl, rfl, by simp, fun k hk _ => Below.heap_alloc b o k hk⟩
theorem Fr.setCell {S : Nat → Prop} {a b : World} (h : Fr S a b) {p : Addr} (hp : S p.block ∨ a.heap.size ≤ p.block) (u : Value) : Fr S a (b.setCell p u) := by
  refine ⟨h.os, h.tape, h.output, ?_, fun k hk hs => ?_⟩
  · have := h.size; simpa [World.setCell] using this
  · rw [Below.heap_setCell b p u k (by rintro rfl; rcases hp with hp | hp; exact hs hp; omega)]
    exact h.block k hk hs
theorem Fr.grown {S : Nat → Prop} {a b c : World} {row : Option Nat} (h : Fr S a b) (hg : b.grownBy c row) (hr : ∀ k, row = some k → S k ∨ a.heap.size ≤ k) : Fr S a c :=
  ⟨hg.os.trans h.os, hg.tape.trans h.tape, hg.output.trans h.output, Nat.le_trans h.size hg.size, fun k hk hs => by
    rw [hg.block k (Nat.lt_of_lt_of_le hk h.size) (by
      intro e
      rcases hr k e.symm with h1 | h1
      · exact hs h1
      · omega)]
    exact h.block k hk hs⟩
theorem Fr.of_below {B : Nat} {a b : World} (h : Below B a b) (hB : a.heap.size ≤ B) (S : Nat → Prop) : Fr S a b :=
  ⟨h.os, h.tape, h.output, h.size, fun k hk _ => h.block k (Nat.lt_of_lt_of_le hk hB)⟩
theorem Fr.below {S : Nat → Prop} {a b : World} (h : Fr S a b) {B : Nat} (hB : B ≤ a.heap.size) (hs : ∀ k, k < B → ¬ S k) : Below B a b :=
  ⟨h.os, h.tape, h.output, h.size, fun k hk => h.block k (Nat.lt_of_lt_of_le hk hB) (hs k hk)⟩
theorem Fr.cell {S : Nat → Prop} {w w' : World} (h : Fr S w w') {p : Addr} (hp : p.block < w.heap.size) (hs : ¬ S p.block) : w'.cell? p = w.cell? p :=
  World.cell?_of_block (w := w) (h.block p.block hp hs)
theorem Fr.frozen {S : Nat → Prop} {w w' : World} (h : Fr S w w') {p : Addr} (hp : p.block < w.heap.size) (hs : ¬ S p.block) : w'.frozen? p = w.frozen? p :=
  World.frozen?_of_block (w := w) (h.block p.block hp hs)
abbrev nothing : Nat → Prop := fun _ => False

theorem lt_of_cell {w : World} {p : Addr} {v : Value} (h : w.cell? p = some v) : p.block < w.heap.size := by
  unfold World.cell? at h
  rcases Nat.lt_or_ge p.block w.heap.size with h1 | h1
  · exact h1
  · rw [Array.getElem?_eq_none h1] at h; simp at h

theorem Sl.fr {α : Type} {enc : α → List Value} {sz : Nat} {w w' : World} {v : Value} {l : List α} {S : Nat → Prop} (h : Sl enc sz w v l) (hf : Fr S w w')
    (hs : ∀ k, (∃ ao n c, v = .slice (some ao) n c ∧ ao.block = k) → ¬ S k) : Sl enc sz w' v l := by
  obtain ⟨ao, cap, rfl, hm, hc⟩ := h
  refine ⟨ao, cap, rfl, hm, fun i x hx => ?_⟩
  obtain ⟨b, off, rfl, hb, hcell⟩ := hc i x hx
  refine ⟨b, off, rfl, Nat.lt_of_lt_of_le hb hf.size, fun j u hu => ?_⟩
  rw [hf.cell (p := ⟨b, off + i * sz + j, none⟩) hb (hs b ⟨_, _, _, rfl, rfl⟩)]
  exact hcell j u hu
theorem Sl.below {α : Type} {enc : α → List Value} {sz : Nat} {w w' : World} {v : Value} {l : List α} {B : Nat} (h : Sl enc sz w v l) (hf : Below B w w') (hB : w.heap.size ≤ B) : Sl enc sz w' v l :=
  h.fr (Fr.of_below hf hB nothing) (fun _ _ => id)

/-- What the call built by append reads so. -/
theorem flat_length {α : Type} (enc : α → List Value) (sz : Nat) (he : ∀ x, (enc x).length = sz) : ∀ l : List α, (l.flatMap enc).length = l.length * sz
  | [] => by simp
  | x :: l => by simp [List.flatMap_cons, he, flat_length enc sz he l, Nat.add_mul, Nat.add_comm]
theorem flat_get {α : Type} (enc : α → List Value) (sz : Nat) (he : ∀ x, (enc x).length = sz) : ∀ (l : List α) (i : Nat) (x : α) (j : Nat) (u : Value), l[i]? = some x → (enc x)[j]? = some u → (l.flatMap enc)[i * sz + j]? = some u
  | [], i, x, j, u, h, _ => by simp at h
  | y :: l, 0, x, j, u, h, hu => by
    simp at h; subst h
    have hj : j < sz := by rw [← he y]; exact (List.getElem?_eq_some_iff.1 hu).1
    rw [List.flatMap_cons, Nat.zero_mul, Nat.zero_add, List.getElem?_append_left (by rw [he]; exact hj)]
    exact hu
  | y :: l, i + 1, x, j, u, h, hu => by
    rw [List.flatMap_cons, List.getElem?_append_right (by rw [he]; have : (i + 1) * sz = i * sz + sz := Nat.succ_mul i sz; omega), he]
    have h1 := flat_get enc sz he l i x j u (by simpa using h) hu
    rw [show (i + 1) * sz + j - sz = i * sz + j by have : (i + 1) * sz = i * sz + sz := Nat.succ_mul i sz; omega]
    exact h1
theorem sl_of_owns {α : Type} {enc : α → List Value} {sz : Nat} (he : ∀ x, (enc x).length = sz) {w : World} {base : Nat} {e : TypeId} {v : Value} {l : List α}
    (h : w.ownsRow base e sz v l.length (l.flatMap enc)) : Sl enc sz w v l := by
  rcases h.2 with ⟨rfl, h0⟩ | ⟨g, cap, cur, rfl, hb, hg, hn, hc, hs, ht⟩
  · have : l = [] := List.length_eq_zero_iff.1 h0
    subst this
    exact ⟨none, 0, rfl, by unfold maxLen; simp, fun i x hx => by simp at hx⟩
  · refine ⟨some ⟨g, 0, none⟩, cap, rfl, by omega, fun i x hx => ⟨g, 0, rfl, ?_, fun j u hu => ?_⟩⟩
    · rcases Nat.lt_or_ge g w.heap.size with h1 | h1
      · exact h1
      · rw [Array.getElem?_eq_none h1] at hg; cases hg
    · have hlt : i * sz + j < l.length * sz := by
        have h1 : i < l.length := (List.getElem?_eq_some_iff.1 hx).1
        have h2 : j < sz := by rw [← he x]; exact (List.getElem?_eq_some_iff.1 hu).1
        have h3 : (i + 1) * sz ≤ l.length * sz := Nat.mul_le_mul_right sz h1
        have h4 : (i + 1) * sz = i * sz + sz := Nat.succ_mul i sz
        omega
      rw [show 0 + i * sz + j = i * sz + j by omega, h.cellAt _ hlt]
      exact flat_get enc sz he l i x j u hx hu

theorem al2_old {w : World} {O1 O2 : Obj} {b j : Nat} (h : b < w.heap.size) : ((w.alloc O1).alloc O2).cell? ⟨b, j, none⟩ = w.cell? ⟨b, j, none⟩ := by
  rw [World.cell?_alloc_past _ _ _ (by simp; omega), World.cell?_alloc_past _ _ _ h]
theorem al2_oldf {w : World} {O1 O2 : Obj} {b j : Nat} (h : b < w.heap.size) : ((w.alloc O1).alloc O2).frozen? ⟨b, j, none⟩ = w.frozen? ⟨b, j, none⟩ := by
  rw [World.frozen?_alloc_past _ _ _ (by simp; omega), World.frozen?_alloc_past _ _ _ h]
theorem all_take {f : UInt8 → Bool} {v : Bs} {k : Nat} (h : (v.take k).all f = true) (hk : k < v.length) {c : UInt8} (hc : v[k] = c) (hf : f c = true) : (v.take (k + 1)).all f = true := by
  rw [List.take_succ_eq_append_getElem hk, List.all_append, h, hc]
  simp [hf]
theorem all_not {f : UInt8 → Bool} {v : Bs} {k : Nat} (hk : k < v.length) {c : UInt8} (hc : v[k] = c) (hf : f c = false) : v.all f = false := by
  rw [List.all_eq_false]
  exact ⟨c, hc ▸ List.getElem_mem hk, by simp [hf]⟩
theorem bs_inj {a b : Bs} (h : bs a = bs b) : a = b := by
  have := congrArg (fun x => x.data.toList) h
  exact this
theorem bs_eq (a b : Bs) : (bs a = bs b) = (a = b) := propext ⟨bs_inj, fun h => h ▸ rfl⟩
theorem bs_toList (a : Bs) : (bs a).toList = a := by rw [ByteArray.toList_eq]; rfl
theorem bs_ne {a b : Bs} (h : ¬ a = b) : ((bs a).toList == (bs b).toList) = false := by rw [bs_toList, bs_toList]; simpa using h
theorem bs_same (a : Bs) : ((bs a).toList == (bs a).toList) = true := by simp
end Go.Proofs.YtpemfikdmkmgbaaDoor
end
section
/- Lists and trees as the machine holds them. -/
namespace Go.Proofs.YtpemfikdmkmgbaaDoor
open Go.RowKit

structure Slc where
  a : Option Addr
  n : Nat
  c : Nat
abbrev Slc.v (s : Slc) : Value := .slice s.a s.n s.c
abbrev nilS : Slc := ⟨none, 0, 0⟩
structure RawE where
  k : Int
  n : Int
  t : Bs
  s : Slc
structure RawS where
  k : Int
  t : Bs
  a : Slc
  x : Slc
  y : Slc
structure RawF where
  t : Bs
  p : Slc
  b : Slc
abbrev ev (r : RawE) : Value := .agg #[.int .i64 r.k, .int .i64 r.n, .string (bs r.t), .slice r.s.a r.s.n r.s.c]
abbrev sv (r : RawS) : Value := .agg #[.int .i64 r.k, .string (bs r.t), .slice r.a.a r.a.n r.a.c, .slice r.x.a r.x.n r.x.c, .slice r.y.a r.y.n r.y.c]
abbrev gv (r : RawF) : Value := .agg #[.string (bs r.t), .slice r.p.a r.p.n r.p.c, .slice r.b.a r.b.n r.b.c]
def encE (r : RawE) : List Value := [.int .i64 r.k, .int .i64 r.n, .string (bs r.t), .slice r.s.a r.s.n r.s.c]
def encS (r : RawS) : List Value := [.int .i64 r.k, .string (bs r.t), .slice r.a.a r.a.n r.a.c, .slice r.x.a r.x.n r.x.c, .slice r.y.a r.y.n r.y.c]
def encG (r : RawF) : List Value := [.string (bs r.t), .slice r.p.a r.p.n r.p.c, .slice r.b.a r.b.n r.b.c]
def encN (r : Bs) : List Value := [.string (bs r)]

/-- Lists of things that are so, each by each. -/
def Each {ρ α : Type} (ok : ρ → α → Prop) (rs : List ρ) (l : List α) : Prop := rs.length = l.length ∧ ∀ (i : Nat) (r : ρ) (x : α), rs[i]? = some r → l[i]? = some x → ok r x
inductive ExOk (w : World) (P : Nat → Prop) : RawE → Ex → Prop
  | mk (k n : Int) (t : Bs) (s : Slc) (rs : List RawE) (l : List Ex) (hs : Sl encE 4 w s.v rs) (hP : ∀ b, s.v.ownBlock = some b → P b) (hl : rs.length = l.length)
      (h : ∀ (i : Nat) (r : RawE) (x : Ex), rs[i]? = some r → l[i]? = some x → ExOk w P r x) : ExOk w P ⟨k, n, t, s⟩ (.mk k n t l)
inductive StOk (w : World) (P : Nat → Prop) : RawS → St → Prop
  | mk (k : Int) (t : Bs) (a x y : Slc) (ra : List RawE) (rx ry : List RawS) (la : List Ex) (lx ly : List St)
      (ha : Sl encE 4 w a.v ra) (hPa : ∀ b, a.v.ownBlock = some b → P b) (ha2 : Each (ExOk w P) ra la)
      (hx : Sl encS 5 w x.v rx) (hPx : ∀ b, x.v.ownBlock = some b → P b) (hx1 : rx.length = lx.length) (hx2 : ∀ (i : Nat) (r : RawS) (z : St), rx[i]? = some r → lx[i]? = some z → StOk w P r z)
      (hy : Sl encS 5 w y.v ry) (hPy : ∀ b, y.v.ownBlock = some b → P b) (hy1 : ry.length = ly.length) (hy2 : ∀ (i : Nat) (r : RawS) (z : St), ry[i]? = some r → ly[i]? = some z → StOk w P r z) :
      StOk w P ⟨k, t, a, x, y⟩ (.mk k t la lx ly)
structure FnOk (w : World) (P : Nat → Prop) (r : RawF) (f : Fn) : Prop where
  t : r.t = f.t
  p : Sl encN 1 w r.p.v f.p
  pP : ∀ b, r.p.v.ownBlock = some b → P b
  b : ∃ rs, Sl encS 5 w r.b.v rs ∧ Each (StOk w P) rs f.b
  bP : ∀ b, r.b.v.ownBlock = some b → P b
def NmOk (_ : World) (_ : Nat → Prop) (r : Bs) (x : Bs) : Prop := r = x

theorem Sl.keep {α : Type} {enc : α → List Value} {sz : Nat} {w w' : World} {v : Value} {l : List α} {S P : Nat → Prop} (h : Sl enc sz w v l) (hf : Fr S w w') (hP : ∀ b, v.ownBlock = some b → P b) (hs : ∀ k, P k → ¬ S k) : Sl enc sz w' v l :=
  h.fr hf fun k hk => by
    obtain ⟨ao, n, c, rfl, rfl⟩ := hk
    exact hs _ (hP _ rfl)
/-- What is so stays so where its blocks do; and of more blocks. -/
def Stays {ρ α : Type} (ok : World → (Nat → Prop) → ρ → α → Prop) : Prop := ∀ (w w' : World) (S P P' : Nat → Prop) (r : ρ) (x : α), ok w P r x → Fr S w w' → (∀ k, P k → ¬ S k) → (∀ k, P k → P' k) → ok w' P' r x
theorem ex_stays : Stays ExOk := by
  intro w w' S P P' r x h hf hs hm
  induction h with
  | mk k n t s rs l hsl hP hl _ ih => exact .mk k n t s rs l (hsl.keep hf hP hs) (fun b hb => hm _ (hP b hb)) hl ih
theorem st_stays : Stays StOk := by
  intro w w' S P P' r x h hf hs hm
  induction h with
  | mk k t a x y ra rx ry la lx ly ha hPa ha2 hx hPx hx1 _ hy hPy hy1 _ ihx ihy =>
    exact .mk k t a x y ra rx ry la lx ly (ha.keep hf hPa hs) (fun b hb => hm _ (hPa b hb)) ⟨ha2.1, fun i r z h1 h2 => ex_stays w w' S P P' r z (ha2.2 i r z h1 h2) hf hs hm⟩ (hx.keep hf hPx hs) (fun b hb => hm _ (hPx b hb)) hx1 ihx
      (hy.keep hf hPy hs) (fun b hb => hm _ (hPy b hb)) hy1 ihy
theorem fn_stays : Stays FnOk := by
  intro w w' S P P' r x h hf hs hm
  obtain ⟨rs, h1, h2⟩ := h.b
  exact ⟨h.t, h.p.keep hf h.pP hs, fun b hb => hm _ (h.pP b hb), ⟨rs, h1.keep hf h.bP hs, h2.1, fun i r z k1 k2 => st_stays w w' S P P' r z (h2.2 i r z k1 k2) hf hs hm⟩, fun b hb => hm _ (h.bP b hb)⟩
theorem nm_stays : Stays NmOk := fun _ _ _ _ _ _ _ h _ _ _ => h

theorem heap_new (w : World) (O : Obj) : (w.alloc O).heap[w.heap.size]? = some O := by unfold World.alloc; simp
theorem owns_fr {w w' : World} {base e sz : Nat} {v : Value} {n : Nat} {xs : List Value} {S : Nat → Prop} (h : w.ownsRow base e sz v n xs) (hf : Fr S w w') (hs : ∀ k, v.ownBlock = some k → ¬ S k) : w'.ownsRow base e sz v n xs := by
  refine ⟨h.1, ?_⟩
  rcases h.2 with h0 | ⟨g, cap, cur, rfl, hb, hg, hr⟩
  · exact .inl h0
  · refine .inr ⟨g, cap, cur, rfl, hb, ?_, hr⟩
    rw [hf.block g ((h.lt g rfl).2) (hs g rfl)]
    exact hg
theorem owns_far {w : World} {base e sz : Nat} {v : Value} {n : Nat} {xs : List Value} (h : w.ownsRow base e sz v n xs) {b : Nat} (hb : b < base) : some b ≠ v.ownBlock := by
  intro e
  have := (h.lt b e.symm).1
  omega

/-- The slice v, whose row is the call's own, holds things that are so; none of theirs lies in v's own block. -/
def Row {ρ α : Type} (E sz : Nat) (enc : ρ → List Value) (ok : World → (Nat → Prop) → ρ → α → Prop) (base : Nat) (v : Value) (l : List α) (w : World) : Prop :=
  ∃ rs : List ρ, w.ownsRow base E sz v l.length (rs.flatMap enc) ∧ base ≤ w.heap.size ∧ Each (ok w (fun k => base ≤ k ∧ k < w.heap.size ∧ v.ownBlock ≠ some k)) rs l
section
variable {ρ α : Type} {E sz : Nat} {enc : ρ → List Value} {ok : World → (Nat → Prop) → ρ → α → Prop} {base : Nat}
theorem Row.nil (w : World) (hb : base ≤ w.heap.size) : Row E sz enc ok base (.slice none 0 0) [] w :=
  ⟨[], World.ownsRow_nil _ _ _ _, hb, rfl, fun i r x h => by simp at h⟩
theorem Row.fr (hst : Stays ok) {v : Value} {l : List α} {w w' : World} {S : Nat → Prop} (h : Row E sz enc ok base v l w) (hf : Fr S w w') (hs : ∀ k, S k → k < base) : Row E sz enc ok base v l w' := by
  obtain ⟨rs, h1, h2, h3, h4⟩ := h
  refine ⟨rs, owns_fr h1 hf (fun k hk e => by have := (h1.lt k hk).1; have := hs k e; omega), Nat.le_trans h2 hf.size, h3, fun i r x k1 k2 => hst w w' S _ _ r x (h4 i r x k1 k2) hf (fun k hk e => ?_) (fun k hk => ⟨hk.1, Nat.lt_of_lt_of_le hk.2.1 hf.size, hk.2.2⟩)⟩
  have := hs k e
  have := hk.1
  omega
theorem Row.shape {v : Value} {l : List α} {w : World} (h : Row E sz enc ok base v l w) : ∃ a c, v = .slice a l.length c := by
  obtain ⟨rs, h1, _⟩ := h
  rcases h1.2 with ⟨h2, h3⟩ | ⟨g, cap, cur, h2, _⟩
  · exact ⟨none, 0, by rw [h2, h3]⟩
  · exact ⟨_, cap, h2⟩
/-- One more. -/
theorem Row.push (hst : Stays ok) {v v' : Value} {l : List α} {w w1 w9 : World} {r : ρ} {x : α} {B : Nat} (h : Row E sz enc ok base v l w) {S S9 : Nat → Prop} (hf : Fr S w w1) (hs : ∀ k, S k → k < base) (hB : w.heap.size ≤ B)
    (hr : ok w1 (fun k => B ≤ k ∧ k < w1.heap.size) r x) (hf9 : Fr S9 w1 w9) (hs9 : ∀ k, S9 k → k < base ∨ v.ownBlock = some k)
    (h9 : ∀ rs : List ρ, w.ownsRow base E sz v l.length (rs.flatMap enc) → w9.ownsRow base E sz v' (l.length + 1) (rs.flatMap enc ++ enc r)) (hb9 : v'.ownBlock = v.ownBlock ∨ ∃ g, v'.ownBlock = some g ∧ w1.heap.size ≤ g) :
    Row E sz enc ok base v' (l ++ [x]) w9 := by
  obtain ⟨rs, h1, h2, h3, h4⟩ := h
  have hsz := Nat.le_trans hf.size hf9.size
  have key : ∀ k, base ≤ k → k < w1.heap.size → v.ownBlock ≠ some k → v'.ownBlock ≠ some k := by
    intro k _ k2 k3 e
    rcases hb9 with hb9 | ⟨g, hb9, hg⟩
    · exact k3 (hb9 ▸ e)
    · rw [hb9] at e
      cases e
      omega
  refine ⟨rs ++ [r], ?_, Nat.le_trans h2 hsz, by simp [h3], fun i r' x' k1 k2 => ?_⟩
  · have := h9 rs h1
    simpa using this
  · rcases Nat.lt_or_ge i l.length with hi | hi
    · rw [List.getElem?_append_left (by omega)] at k1
      rw [List.getElem?_append_left hi] at k2
      have a1 := hst w w1 S _ (fun k => base ≤ k ∧ k < w1.heap.size ∧ v.ownBlock ≠ some k) r' x' (h4 i r' x' k1 k2) hf (fun k hk e => by have := hs k e; have := hk.1; omega) (fun k hk => ⟨hk.1, Nat.lt_of_lt_of_le hk.2.1 hf.size, hk.2.2⟩)
      refine hst w1 w9 S9 _ _ r' x' a1 hf9 (fun k hk e => ?_) (fun k hk => ⟨hk.1, Nat.lt_of_lt_of_le hk.2.1 hf9.size, key k hk.1 hk.2.1 hk.2.2⟩)
      rcases hs9 k e with h | h
      · have := hk.1; omega
      · exact hk.2.2 h
    · have e1 : i = l.length := by
        have := (List.getElem?_eq_some_iff.1 k2).1
        simp at this
        omega
      subst e1
      rw [← h3, List.getElem?_append_right (Nat.le_refl _)] at k1
      rw [List.getElem?_append_right (Nat.le_refl _)] at k2
      simp at k1 k2
      subst k1 k2
      have hlt : ∀ k, v.ownBlock = some k → k < w.heap.size := fun k hk => (h1.lt k hk).2
      refine hst w1 w9 S9 _ _ r x hr hf9 (fun k hk e => ?_) (fun k hk => ⟨by omega, Nat.lt_of_lt_of_le hk.2 hf9.size, key k (by omega) hk.2 (fun e => by have := hlt k e; omega)⟩)
      rcases hs9 k e with h | h
      · omega
      · have := hlt k h
        omega
/-- What has been gathered. -/
theorem Row.done (hst : Stays ok) (hen : ∀ x, (enc x).length = sz) {v : Value} {l : List α} {w : World} {B : Nat} (h : Row E sz enc ok base v l w) (hB : B ≤ base) :
    ∃ rs : List ρ, Sl enc sz w v rs ∧ (∀ b, v.ownBlock = some b → B ≤ b ∧ b < w.heap.size) ∧ Each (ok w (fun k => B ≤ k ∧ k < w.heap.size)) rs l := by
  obtain ⟨rs, h1, h2, h3, h4⟩ := h
  refine ⟨rs, sl_of_owns hen (h3 ▸ h1), fun b hb => ?_, h3, fun i r x k1 k2 => hst w w nothing _ _ r x (h4 i r x k1 k2) (Fr.refl _ _) (fun _ _ => id) (fun k hk => ⟨by omega, hk.2.1⟩)⟩
  have := h1.lt b hb
  omega
end
theorem set_behind (xs ys : List Value) (m j : Nat) (u : Value) (hm : xs.length = m) : (xs ++ ys).set (m + j) u = xs ++ ys.set j u := by
  subst hm
  rw [List.set_append_right _ _ (by omega)]
  congr 2
  omega
/-- The new row's cells stored. -/
theorem owns_store4 {w : World} {base E n cap g : Nat} {xs : List Value} {a b c d u0 u1 u2 u3 : Value} (h : w.ownsRow base E 4 (.slice (some ⟨g, 0, none⟩) (n + 1) cap) (n + 1) (xs ++ [a, b, c, d])) (hx : xs.length = n * 4) :
    ((((w.setCell ⟨g, n * 4, none⟩ u0).setCell ⟨g, n * 4 + 1, none⟩ u1).setCell ⟨g, n * 4 + 2, none⟩ u2).setCell ⟨g, n * 4 + 3, none⟩ u3).ownsRow base E 4 (.slice (some ⟨g, 0, none⟩) (n + 1) cap) (n + 1) (xs ++ [u0, u1, u2, u3]) := by
  have h0 := (h.stored (n * 4) u0).1
  have h1 := (h0.stored (n * 4 + 1) u1).1
  have h2 := (h1.stored (n * 4 + 2) u2).1
  have h3 := (h2.stored (n * 4 + 3) u3).1
  have e : (((((xs ++ [a, b, c, d]).set (n * 4) u0).set (n * 4 + 1) u1).set (n * 4 + 2) u2).set (n * 4 + 3) u3) = xs ++ [u0, u1, u2, u3] := by
    have := set_behind xs [a, b, c, d] (n * 4) 0 u0 hx
    rw [Nat.add_zero] at this
    rw [this, set_behind xs _ _ 1 u1 hx, set_behind xs _ _ 2 u2 hx, set_behind xs _ _ 3 u3 hx]
    rfl
  rw [e] at h3
  exact h3
theorem owns_store5 {w : World} {base E n cap g : Nat} {xs : List Value} {a b c d f u0 u1 u2 u3 u4 : Value} (h : w.ownsRow base E 5 (.slice (some ⟨g, 0, none⟩) (n + 1) cap) (n + 1) (xs ++ [a, b, c, d, f])) (hx : xs.length = n * 5) :
    (((((w.setCell ⟨g, n * 5, none⟩ u0).setCell ⟨g, n * 5 + 1, none⟩ u1).setCell ⟨g, n * 5 + 2, none⟩ u2).setCell ⟨g, n * 5 + 3, none⟩ u3).setCell ⟨g, n * 5 + 4, none⟩ u4).ownsRow base E 5 (.slice (some ⟨g, 0, none⟩) (n + 1) cap) (n + 1) (xs ++ [u0, u1, u2, u3, u4]) := by
  have h0 := (h.stored (n * 5) u0).1
  have h1 := (h0.stored (n * 5 + 1) u1).1
  have h2 := (h1.stored (n * 5 + 2) u2).1
  have h3 := (h2.stored (n * 5 + 3) u3).1
  have h4 := (h3.stored (n * 5 + 4) u4).1
  have e : ((((((xs ++ [a, b, c, d, f]).set (n * 5) u0).set (n * 5 + 1) u1).set (n * 5 + 2) u2).set (n * 5 + 3) u3).set (n * 5 + 4) u4) = xs ++ [u0, u1, u2, u3, u4] := by
    have := set_behind xs [a, b, c, d, f] (n * 5) 0 u0 hx
    rw [Nat.add_zero] at this
    rw [this, set_behind xs _ _ 1 u1 hx, set_behind xs _ _ 2 u2 hx, set_behind xs _ _ 3 u3 hx, set_behind xs _ _ 4 u4 hx]
    rfl
  rw [e] at h4
  exact h4
theorem encE_len (r : RawE) : (encE r).length = 4 := rfl
theorem encS_len (r : RawS) : (encS r).length = 5 := rfl
theorem encG_len (r : RawF) : (encG r).length = 3 := rfl
theorem encN_len (r : Bs) : (encN r).length = 1 := rfl

theorem ex_leaf (w : World) (P : Nat → Prop) (k n : Int) (t : Bs) : ExOk w P ⟨k, n, t, nilS⟩ (.mk k n t []) :=
  .mk k n t nilS [] [] ⟨none, 0, rfl, by unfold maxLen; simp, fun i x h => by simp at h⟩ (fun b h => by cases h) rfl (fun i r x h => by simp at h)
/-- A block made ahead stays. -/
theorem made_cells {w w1 : World} {cs : Array Value} {t : TypeId} {S : Nat → Prop} (hf : Fr S (w.alloc (.cells cs t)) w1) (hs : ¬ S w.heap.size) :
    (∀ j, w1.cell? ⟨w.heap.size, j, none⟩ = cs[j]?) ∧ (∀ j, w1.frozen? ⟨w.heap.size, j, none⟩ = false) ∧ w.heap.size < w1.heap.size := by
  have hz := hf.size
  simp at hz
  refine ⟨fun j => ?_, fun j => ?_, by omega⟩
  · rw [hf.cell (p := ⟨w.heap.size, j, none⟩) (by simp) hs, World.cell?_alloc_new]
  · rw [hf.frozen (p := ⟨w.heap.size, j, none⟩) (by simp) hs, World.frozen?_alloc_new]
theorem made4 {w w1 : World} {a b c d : Value} {t : TypeId} {S : Nat → Prop} (hf : Fr S (w.alloc (.cells #[a, b, c, d] t)) w1) (hs : ¬ S w.heap.size) :
    w1.cell? ⟨w.heap.size, 0, none⟩ = some a ∧ w1.cell? ⟨w.heap.size, 1, none⟩ = some b ∧ w1.cell? ⟨w.heap.size, 2, none⟩ = some c ∧ w1.cell? ⟨w.heap.size, 3, none⟩ = some d ∧ w1.frozen? ⟨w.heap.size, 0, none⟩ = false ∧ w1.frozen? ⟨w.heap.size, 1, none⟩ = false ∧ w1.frozen? ⟨w.heap.size, 2, none⟩ = false ∧ w1.frozen? ⟨w.heap.size, 3, none⟩ = false ∧ w.heap.size < w1.heap.size := by
  obtain ⟨h1, h2, h3⟩ := made_cells hf hs
  exact ⟨h1 0, h1 1, h1 2, h1 3, h2 0, h2 1, h2 2, h2 3, h3⟩
/-- What is stored in the block. -/
theorem Fr.then {S S' : Nat → Prop} {a b c : World} (h : Fr S a b) (k : Fr S' b c) (hs : ∀ j, j < a.heap.size → S' j → S j) : Fr S a c :=
  ⟨k.os.trans h.os, k.tape.trans h.tape, k.output.trans h.output, Nat.le_trans h.size k.size, fun j hj hn => (k.block j (Nat.lt_of_lt_of_le hj h.size) (fun e => hn (hs j hj e))).trans (h.block j hj hn)⟩
theorem new4 (w : World) (a b c d : Value) (t : TypeId) {g : Nat} (hg : g = w.heap.size) : ∀ j u, ([a, b, c, d] : List Value)[j]? = some u → (w.alloc (.cells #[a, b, c, d] t)).cell? ((⟨g, 0, none⟩ : Addr).add j) = some u := by
  subst hg
  exact World.news_of_block (cs := #[a, b, c, d]) (t := t) (fr := (0, 0)) (heap_new _ _)
theorem behind {xs ys : List Value} {m j : Nat} {u : Value} (hm : xs.length = m) (h : ys[j]? = some u) : (xs ++ ys)[m + j]? = some u := by
  subst hm
  rw [List.getElem?_append_right (by omega)]
  rw [show xs.length + j - xs.length = j by omega]
  exact h
theorem new_cells4 {w : World} {base E n cap g : Nat} {xs : List Value} {a b c d : Value} (h : w.ownsRow base E 4 (.slice (some ⟨g, 0, none⟩) (n + 1) cap) (n + 1) (xs ++ [a, b, c, d])) (hx : xs.length = n * 4) :
    (w.cell? ⟨g, n * 4, none⟩ = some a ∧ w.cell? ⟨g, n * 4 + 1, none⟩ = some b ∧ w.cell? ⟨g, n * 4 + 2, none⟩ = some c ∧ w.cell? ⟨g, n * 4 + 3, none⟩ = some d) ∧ w.frozen? ⟨g, n * 4, none⟩ = false ∧ w.frozen? ⟨g, n * 4 + 1, none⟩ = false ∧ w.frozen? ⟨g, n * 4 + 2, none⟩ = false ∧ w.frozen? ⟨g, n * 4 + 3, none⟩ = false := by
  refine ⟨⟨?_, ?_, ?_, ?_⟩, h.frozenAt _, h.frozenAt _, h.frozenAt _, h.frozenAt _⟩
  · rw [h.cellAt _ (by omega)]; exact behind (j := 0) hx rfl
  · rw [h.cellAt _ (by omega)]; exact behind (j := 1) hx rfl
  · rw [h.cellAt _ (by omega)]; exact behind (j := 2) hx rfl
  · rw [h.cellAt _ (by omega)]; exact behind (j := 3) hx rfl
theorem owns_same {w : World} {base e sz : Nat} {v : Value} {n : Nat} {xs ys : List Value} (h : w.ownsRow base e sz v n xs) (k : w.ownsRow base e sz v n ys) : xs = ys := by
  rcases h.2 with ⟨h1, h2⟩ | ⟨g, cap, cur, rfl, hb, hg, hr1, hr2, hr3, hr4⟩
  · subst h2
    have e1 := h.1
    have e2 := k.1
    simp at e1 e2
    rw [e1, e2]
  · rcases k.2 with ⟨h1, _⟩ | ⟨g', cap', cur', h1, hb', hg', hs1, hs2, hs3, hs4⟩
    · cases h1
    · cases h1
      rw [hg] at hg'
      cases hg'
      rw [← hr4, hs4]
theorem add_eq (b o j : Nat) : (⟨b, o, none⟩ : Addr).add j = ⟨b, o + j, none⟩ := by
  by_cases h0 : j = 0 <;> simp [Addr.add, h0]
theorem wrap_in (n : Int) (h0 : -9223372036854775808 ≤ n) (h1 : n ≤ 9223372036854775807) : IntKind.i64.wrap n = n := by
  rw [IntKind.wrap_i64]; omega
theorem sl_len {α : Type} {enc : α → List Value} {sz : Nat} {w : World} {s : Slc} {rs : List α} (h : Sl enc sz w s.v rs) : s.n = rs.length ∧ rs.length ≤ 9223372036854775807 := by
  obtain ⟨ao, cap, he, hm, _⟩ := h
  simp only [Value.slice.injEq] at he
  exact ⟨he.2.1, by unfold maxLen at hm; omega⟩
theorem sl_elem1 {w : World} {s : Slc} {rs : List Bs} (h : Sl encN 1 w s.v rs) {i : Nat} {r : Bs} (hi : rs[i]? = some r) : ∃ b off, s.a = some ⟨b, off, none⟩ ∧ b < w.heap.size ∧ w.cell? ⟨b, off + i, none⟩ = some (.string (bs r)) := by
  obtain ⟨ao, cap, he, _, hc⟩ := h
  obtain ⟨b, off, rfl, hb, hcell⟩ := hc i r hi
  simp only [Value.slice.injEq] at he
  have := hcell 0 _ rfl
  rw [Nat.mul_one, Nat.add_zero] at this
  exact ⟨b, off, he.1, hb, this⟩
end Go.Proofs.YtpemfikdmkmgbaaDoor
end
section
/- What is wrong with the names of functions; what the functions of a text look like (no program). -/
namespace Go.Proofs.YtpemfikdmkmgbaaDoor

/-- Texts, each counted once. -/
structure WS where
  f : Bs → Bool
  n : Nat
def WS.empty : WS := ⟨fun _ => false, 0⟩
def WS.add (W : WS) (k : Bs) : WS := ⟨fun x => decide (x = k) || W.f x, if W.f k then W.n else W.n + 1⟩
theorem WS.add_le (W : WS) (k : Bs) : (W.add k).n ≤ W.n + 1 := by unfold WS.add; dsimp only; split <;> omega
theorem WS.le_add (W : WS) (k : Bs) : W.n ≤ (W.add k).n := by unfold WS.add; dsimp only; split <;> omega

/-- What is wrong with an expression itself. -/
def exE (F : Bs → Option Int) (nm : List Bs) (k : Int) (t : Bs) (n : Nat) : Int :=
  if k = 3 then (if nm.contains t then 0 else 6)
  else if k = 11 then (match F t with | none => 6 | some m => if m = n then 0 else 5)
  else 0
def exW (k : Int) (t : Bs) (W : WS) : WS := if k = 2 then W.add t else W
structure EW where
  e : Int
  W : WS
def EW.or (r : EW) (g : WS → EW) : EW := if r.e = 0 then g r.W else r
mutual
def exC (F : Bs → Option Int) (nm : List Bs) : Ex → WS → EW
  | .mk k _ t a => fun W => EW.or ⟨exE F nm k t a.length, exW k t W⟩ (exsC F nm a)
def exsC (F : Bs → Option Int) (nm : List Bs) : List Ex → WS → EW
  | [] => fun W => ⟨0, W⟩
  | x :: l => fun W => (exC F nm x W).or (exsC F nm l)
end
mutual
def exN : Ex → Nat
  | .mk _ _ _ a => 1 + exsN a
def exsN : List Ex → Nat
  | [] => 0
  | x :: l => exN x + exsN l
end
/-- What is wrong, which names are there then, how many variables, and the texts. -/
structure CR where
  e : Int
  nm : List Bs
  v : Int
  W : WS
def CR.or (r : CR) (g : CR → CR) : CR := if r.e = 0 then g r else r
def stE (nm : List Bs) (v : Int) (k : Int) (t : Bs) : Int :=
  if k = 1 then (if nm.contains t then 7 else if 8 ≤ v then 4 else 0)
  else if k = 2 then (if nm.contains t then 0 else 6) else 0
def stN1 (nm : List Bs) (k : Int) (t : Bs) : List Bs := if k = 1 then nm ++ [t] else nm
def stV1 (v : Int) (k : Int) : Int := if k = 1 then v + 1 else v
mutual
def stC (F : Bs → Option Int) : St → List Bs → Int → WS → CR
  | .mk k t a x y => fun nm v W =>
    CR.or ⟨(exsC F nm a W).e, nm, v, (exsC F nm a W).W⟩ fun r =>
    CR.or ⟨stE nm v k t, stN1 nm k t, stV1 v k, r.W⟩ fun r =>
    CR.or (stsC F x r.nm r.v r.W) fun r2 =>
    CR.or (stsC F y r.nm r2.v r2.W) fun r3 => ⟨0, r.nm, r3.v, r3.W⟩
def stsC (F : Bs → Option Int) : List St → List Bs → Int → WS → CR
  | [] => fun nm v W => ⟨0, nm, v, W⟩
  | s :: l => fun nm v W => (stC F s nm v W).or fun r => stsC F l r.nm r.v r.W
end
mutual
def stN : St → Nat
  | .mk _ _ a x y => 1 + exsN a + stsN x + stsN y
def stsN : List St → Nat
  | [] => 0
  | s :: l => stN s + stsN l
end
/-- A function's head. -/
def dup : List Bs → Bool
  | [] => false
  | x :: l => l.contains x || dup l
def headsC : List Fn → (Bs → Option Int) → Int × (Bs → Option Int)
  | [], F => (0, F)
  | f :: l, F => if (F f.t).isSome || dup f.p then (7, F) else if 4 < f.p.length then (5, F) else headsC l (fun x => if x = f.t then some f.p.length else F x)
def bodiesC (F : Bs → Option Int) : List Fn → WS → EW
  | [], W => ⟨0, W⟩
  | f :: l, W => EW.or ⟨(stsC F f.b f.p f.p.length W).e, (stsC F f.b f.p f.p.length W).W⟩ (bodiesC F l)
def firstP (l : List Fn) : Nat := match l with | [] => 0 | f :: _ => f.p.length
def checkC (l : List Fn) : Int :=
  if l.length = 0 ∨ 5 < l.length then 5
  else if (headsC l (fun _ => none)).1 ≠ 0 then (headsC l (fun _ => none)).1
  else if firstP l ≠ 0 then 10
  else if (bodiesC (headsC l (fun _ => none)).2 l WS.empty).e ≠ 0 then (bodiesC (headsC l (fun _ => none)).2 l WS.empty).e
  else if 16 < (bodiesC (headsC l (fun _ => none)).2 l WS.empty).W.n then 4 else 0

/-- What the expressions and statements of a text look like. -/
inductive ExSh : Ex → Prop
  | mk {k n : Int} {t : Bs} {a : List Ex} (h1 : k = 1 ∨ k = 2 ∨ k = 3 ∨ k = 9 → a = []) (h2 : t.length ≤ 1500) (h3 : ∀ x ∈ a, ExSh x) : ExSh (.mk k n t a)
inductive StSh : St → Prop
  | mk {k : Int} {t : Bs} {a : List Ex} {x y : List St} (h1 : k ≠ 3 → k ≠ 4 → x = []) (h2 : k ≠ 3 → y = []) (h3 : t.length ≤ 1500) (h4 : ∀ e ∈ a, ExSh e) (h5 : ∀ s ∈ x, StSh s) (h6 : ∀ s ∈ y, StSh s) : StSh (.mk k t a x y)
structure FnSh (f : Fn) : Prop where
  t : f.t.length ≤ 1500
  p : ∀ s ∈ f.p, s.length ≤ 1500
  b : ∀ s ∈ f.b, StSh s
def fnsN (l : List Fn) : Nat := (l.map fun f => f.p.length + stsN f.b).sum

/- The texts grow by at most what is looked at. -/
theorem EW.or_le {r : EW} {g : WS → EW} {a b : Nat} (h1 : r.W.n ≤ a) (h2 : ∀ W : WS, W.n ≤ a → (g W).W.n ≤ a + b) : (r.or g).W.n ≤ a + b := by
  unfold EW.or
  split
  · exact h2 _ h1
  · omega
mutual
theorem exC_le (F : Bs → Option Int) (nm : List Bs) : ∀ (x : Ex) (W : WS), (exC F nm x W).W.n ≤ W.n + exN x
  | .mk k n t a, W => by
    unfold exC exN
    have h1 : (exW k t W).n ≤ W.n + 1 := by
      unfold exW; split
      · exact W.add_le t
      · omega
    have := EW.or_le (r := ⟨exE F nm k t a.length, exW k t W⟩) (g := exsC F nm a) (a := W.n + 1) (b := exsN a) h1 (fun W' h => by have := exsC_le F nm a W'; omega)
    omega
theorem exsC_le (F : Bs → Option Int) (nm : List Bs) : ∀ (l : List Ex) (W : WS), (exsC F nm l W).W.n ≤ W.n + exsN l
  | [], W => by simp [exsC, exsN]
  | x :: l, W => by
    unfold exsC exsN
    have h1 := exC_le F nm x W
    have := EW.or_le (r := exC F nm x W) (g := exsC F nm l) (a := W.n + exN x) (b := exsN l) h1 (fun W' h => by have := exsC_le F nm l W'; omega)
    omega
end
theorem CR.or_le {r : CR} {g : CR → CR} {a b : Nat} (h1 : r.W.n ≤ a) (h2 : ∀ R : CR, R.W.n ≤ a → (g R).W.n ≤ a + b) : (r.or g).W.n ≤ a + b := by
  unfold CR.or
  split
  · exact h2 _ h1
  · omega
mutual
theorem stC_le (F : Bs → Option Int) : ∀ (s : St) (nm : List Bs) (v : Int) (W : WS), (stC F s nm v W).W.n ≤ W.n + stN s
  | .mk k t a x y, nm, v, W => by
    unfold stC stN
    have h1 := exsC_le F nm a W
    refine Nat.le_trans (CR.or_le (a := W.n + exsN a) (b := stsN x + stsN y) h1 fun R hR => ?_) (by omega)
    refine Nat.le_trans (CR.or_le (a := W.n + exsN a) (b := stsN x + stsN y) hR fun R2 hR2 => ?_) (by omega)
    have h2 := stsC_le F x R2.nm R2.v R2.W
    refine Nat.le_trans (CR.or_le (a := W.n + exsN a + stsN x) (b := stsN y) (by omega) fun R3 hR3 => ?_) (by omega)
    have h3 := stsC_le F y R2.nm R3.v R3.W
    refine Nat.le_trans (CR.or_le (a := W.n + exsN a + stsN x + stsN y) (b := 0) (by omega) fun R4 hR4 => ?_) (by omega)
    exact Nat.le_trans hR4 (by omega)
theorem stsC_le (F : Bs → Option Int) : ∀ (l : List St) (nm : List Bs) (v : Int) (W : WS), (stsC F l nm v W).W.n ≤ W.n + stsN l
  | [], nm, v, W => by simp [stsC, stsN]
  | s :: l, nm, v, W => by
    unfold stsC stsN
    have h1 := stC_le F s nm v W
    refine Nat.le_trans (CR.or_le (a := W.n + stN s) (b := stsN l) h1 fun R hR => ?_) (by omega)
    have h2 := stsC_le F l R.nm R.v R.W
    omega
end
mutual
theorem stC_v (F : Bs → Option Int) : ∀ (s : St) (nm : List Bs) (v : Int) (W : WS), 0 ≤ v → v ≤ 8 → (stC F s nm v W).e = 0 → 0 ≤ (stC F s nm v W).v ∧ (stC F s nm v W).v ≤ 8
  | .mk k t a x y, nm, v, W => by
    intro h0 h8
    rw [stC]
    simp only
    unfold CR.or
    split
    · dsimp only
      split
      · rename_i hs
        try dsimp only at hs
        have hv : 0 ≤ stV1 v k ∧ stV1 v k ≤ 8 := by
          unfold stV1; split
          · rename_i hk
            have : ¬ 8 ≤ v := by
              intro h
              unfold stE at hs
              rw [if_pos hk] at hs
              by_cases hc : nm.contains t = true
              · rw [if_pos hc] at hs; cases hs
              · rw [if_neg hc, if_pos h] at hs; cases hs
            omega
          · omega
        split
        · rename_i hx
          have h2 := stsC_v F x (stN1 nm k t) (stV1 v k) (exsC F nm a W).W hv.1 hv.2 hx
          split
          · rename_i hy
            intro _
            exact stsC_v F y (stN1 nm k t) _ _ h2.1 h2.2 hy
          · rename_i hy; intro h; exact absurd h hy
        · rename_i hx; intro h; exact absurd h hx
      · rename_i hs; intro h; exact absurd h hs
    · rename_i he; intro h; exact absurd h he
theorem stsC_v (F : Bs → Option Int) : ∀ (l : List St) (nm : List Bs) (v : Int) (W : WS), 0 ≤ v → v ≤ 8 → (stsC F l nm v W).e = 0 → 0 ≤ (stsC F l nm v W).v ∧ (stsC F l nm v W).v ≤ 8
  | [], nm, v, W => by
    intro h0 h8 _
    rw [stsC]
    exact ⟨h0, h8⟩
  | s :: l, nm, v, W => by
    intro h0 h8
    rw [stsC]
    simp only
    unfold CR.or
    split
    · rename_i he
      have h1 := stC_v F s nm v W h0 h8 he
      exact stsC_v F l _ _ _ h1.1 h1.2
    · rename_i he; intro h; exact absurd h he
end
theorem exN_mem {x : Ex} : ∀ {l : List Ex}, x ∈ l → exN x ≤ exsN l
  | y :: l, h => by
    unfold exsN
    rcases List.mem_cons.1 h with rfl | h
    · omega
    · have := exN_mem h; omega
theorem stN_mem {x : St} : ∀ {l : List St}, x ∈ l → stN x ≤ stsN l
  | y :: l, h => by
    unfold stsN
    rcases List.mem_cons.1 h with rfl | h
    · omega
    · have := stN_mem h; omega
theorem exN_pos (x : Ex) : 1 ≤ exN x := by cases x; unfold exN; omega
theorem stN_pos (x : St) : 1 ≤ stN x := by cases x; unfold stN; omega
theorem exsN_drop : ∀ (l : List Ex) (i : Nat), exsN (l.drop i) ≤ exsN l
  | [], i => by simp
  | x :: l, 0 => by simp
  | x :: l, i + 1 => by rw [List.drop_succ_cons, exsN]; have := exsN_drop l i; omega
theorem stsN_drop : ∀ (l : List St) (i : Nat), stsN (l.drop i) ≤ stsN l
  | [], i => by simp
  | x :: l, 0 => by simp
  | x :: l, i + 1 => by rw [List.drop_succ_cons, stsN]; have := stsN_drop l i; omega
end Go.Proofs.YtpemfikdmkmgbaaDoor
end
