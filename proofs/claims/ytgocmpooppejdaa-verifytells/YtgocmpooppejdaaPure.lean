/- Programs as texts, as the document's own answer reads them (zwref1.Parse), as a function of the bytes; what is wrong with their names (no program). -/
import Derived.WalkKit
import Derived.Lib.ItoaNum
import Derived.Shelf.Strconv.AtoiAll
namespace Go.Proofs.Ytgocmpooppejdaa

abbrev Bs := List UInt8
inductive Ex where
  | mk (k n : Int) (t : Bs) (a : List Ex)
inductive St where
  | mk (k : Int) (t : Bs) (a : List Ex) (x y : List St)
structure Fn where
  t : Bs
  p : List Bs
  b : List St
/-- What was read, what is left, and what is wrong. -/
structure Rd (α : Type) where
  v : α
  l : Bs
  z : Int
abbrev Reader (α : Type) := Bs → Int → Rd α

def blank (c : UInt8) : Bool := c == 32 || c == 10
def ends (c : UInt8) : Bool := c == 32 || c == 10 || c == 40 || c == 41 || c == 39
def skip (l : Bs) : Bs := l.dropWhile blank
def inW (c : UInt8) : Bool := !ends c
def noQ (c : UInt8) : Bool := !(c == 39)
def letter (c : UInt8) : Bool := decide (97 ≤ c.toNat) && decide (c.toNat ≤ 122)
def wordC (c : UInt8) : Bool := decide (32 ≤ c.toNat) && decide (c.toNat ≤ 126) && decide (c.toNat ≠ 39)
/-- The words of the language. -/
def taken : List Bs := [[108, 101, 116], [115, 101, 116], [105, 102], [119, 104, 105, 108, 101], [115, 97, 121], [114, 101, 116, 117, 114, 110], [112, 117, 116, 108], [112, 117, 116, 114], [100, 111], [99, 101, 108, 108], [108, 101, 102, 116], [114, 105, 103, 104, 116], [97, 115, 107], [104, 101, 114, 101], [103, 111]]
def isName (w : Bs) : Bool := !(taken.contains w) && w.all letter && decide (0 < w.length) && decide (w.length < 9)
def isWord (w : Bs) : Bool := w.all wordC && decide (w.length < 13)

def bad (z e : Int) : Int := if z = 0 then e else z
def peekC : Bs → UInt8
  | [] => 0
  | c :: _ => if c = 0 then 1 else c
def must (c : UInt8) : Reader Unit := fun l z =>
  match skip l with
  | [] => ⟨(), [], bad z 8⟩
  | d :: t => if d = c then ⟨(), t, z⟩ else ⟨(), d :: t, bad z 2⟩
def wordZ (m w : Bs) (z : Int) : Int := if w.isEmpty then (if m.isEmpty then bad z 8 else bad z 2) else z
def word : Reader Bs := fun l z => ⟨(skip l).takeWhile inW, (skip l).dropWhile inW, wordZ (skip l) ((skip l).takeWhile inW) z⟩
def name : Reader Bs := fun l z => ⟨(word l z).v, (word l z).l, if isName (word l z).v then (word l z).z else bad (word l z).z 7⟩
/-- Up to a bracket. -/
def until_ {α : Type} (one : Reader α) : Nat → Reader (List α)
  | 0 => fun l z => ⟨[], l, z⟩
  | n + 1 => fun l z =>
    if z = 0 then
      if (skip l).head? = some 41 then ⟨[], (skip l).tail, z⟩
      else
        let r := one (skip l) z
        let q := until_ one n r.l r.z
        ⟨r.v :: q.v, q.l, q.z⟩
    else ⟨[], (must 41 l z).l, (must 41 l z).z⟩
def times {α : Type} (one : Reader α) : Nat → Reader (List α)
  | 0 => fun l z => ⟨[], l, z⟩
  | n + 1 => fun l z =>
    let r := one l z
    let q := times one n r.l r.z
    ⟨r.v :: q.v, q.l, q.z⟩

/-- The number that a word is. -/
def numOf (w : Bs) : Option Int :=
  match Lib.atoiAll w with
  | .ok n => if Lib.itoa n = w then some n else none
  | _ => none
def inInt (n : Int) : Bool := decide (-1073741824 ≤ n) && decide (n ≤ 1073741824)
def ex0 : Ex := .mk 0 0 [] []
def wordE (w : Bs) : Ex :=
  match numOf w with
  | some n => .mk 1 n [] []
  | none => .mk 3 0 w []
def wordEZ (w : Bs) (z : Int) : Int :=
  match numOf w with
  | some n => if inInt n then z else bad z 3
  | none => if isName w then z else bad z 7
/-- Kind, operation, and how many parts (none: a call). -/
def formOf (w : Bs) : Int × Int × Option Nat :=
  if w = [43] then (4, 1, some 2) else if w = [45] then (4, 2, some 2) else if w = [42] then (4, 3, some 2) else if w = [60] then (4, 4, some 2) else if w = [61] then (4, 5, some 2)
  else if w = [99, 101, 108, 108] then (5, 0, some 2) else if w = [108, 101, 102, 116] then (6, 0, some 1) else if w = [114, 105, 103, 104, 116] then (7, 0, some 1) else if w = [97, 115, 107] then (8, 0, some 1)
  else if w = [104, 101, 114, 101] then (9, 0, some 0) else if w = [103, 111] then (10, 0, some 1) else (11, 0, none)
def headE (w : Bs) (xs : List Ex) : Ex := .mk (formOf w).1 (formOf w).2.1 (if (formOf w).2.2 = none then w else []) xs
def headZ (w : Bs) (z : Int) : Int := if (formOf w).2.2 = none ∧ isName w = false then bad z 7 else z
def manyBad (w : Bs) (n : Nat) : Bool :=
  match (formOf w).2.2 with
  | some k => decide (n ≠ k)
  | none => decide (4 < n)
def quoted (t : Bs) (z : Int) : Rd Ex :=
  match t.dropWhile noQ with
  | [] => ⟨.mk 2 0 [] [], t, bad z 8⟩
  | _ :: r => ⟨.mk 2 0 (t.takeWhile noQ) [], r, if isWord (t.takeWhile noQ) then z else bad z 2⟩
def single (l : Bs) (z : Int) : Rd Ex := ⟨wordE (word l z).v, (word l z).l, wordEZ (word l z).v (word l z).z⟩
def formed (args : Reader (List Ex)) (t : Bs) (z : Int) : Rd Ex :=
  let w := word t z
  let a := args w.l (headZ w.v w.z)
  ⟨headE w.v a.v, a.l, if manyBad w.v a.v.length then bad a.z 5 else a.z⟩
/-- With so many levels left. -/
def expr (N : Nat) : Nat → Reader Ex
  | 0 => fun l z => ⟨ex0, l, bad z 9⟩
  | k + 1 => fun l z =>
    if z = 0 then
      match skip l with
      | [] => single [] z
      | c :: t => if c = 39 then quoted t z else if c = 40 then formed (until_ (expr N k) N) t z else single (c :: t) z
    else ⟨ex0, l, z⟩
def st0 : St := .mk 0 [] [] [] []
def kindOf (w : Bs) : Nat :=
  if w = [108, 101, 116] then 1 else if w = [115, 101, 116] then 2 else if w = [105, 102] then 3 else if w = [119, 104, 105, 108, 101] then 4 else if w = [115, 97, 121] then 5 else if w = [114, 101, 116, 117, 114, 110] then 6
  else if w = [112, 117, 116, 108] then 7 else if w = [112, 117, 116, 114] then 8 else if w = [100, 111] then 9 else 0
def argsOf (k : Nat) : Nat := if k = 0 then 0 else if k = 7 ∨ k = 8 then 2 else 1
def optName (k : Nat) : Reader Bs := fun l z => if k = 1 ∨ k = 2 then name l z else ⟨[], l, z⟩
/-- What a statement has behind its expressions. -/
def restP (nest : Reader (List St)) (k : Nat) : Reader (List St × List St) := fun l z =>
  if k = 3 then
    let a := must 40 l z
    let x := nest a.l a.z
    let b := must 40 x.l x.z
    let y := nest b.l b.z
    let c := must 41 y.l y.z
    ⟨(x.v, y.v), c.l, c.z⟩
  else if k = 4 then
    let x := nest l z
    ⟨(x.v, []), x.l, x.z⟩
  else ⟨([], []), (must 41 l z).l, (must 41 l z).z⟩
def parts (e : Reader Ex) (nest : Reader (List St)) (k : Nat) : Reader St := fun l z =>
  let n := optName k l z
  let a := times e (argsOf k) n.l n.z
  let r := restP nest k a.l a.z
  ⟨.mk k n.v a.v r.v.1 r.v.2, r.l, r.z⟩
def stmtP (e : Reader Ex) (nest : Reader (List St)) : Reader St := fun l z =>
  let a := must 40 l z
  let w := word a.l a.z
  parts e nest (kindOf w.v) w.l (if kindOf w.v = 0 then bad w.z 1 else w.z)
def stmt (N : Nat) : Nat → Reader St
  | 0 => fun l z => ⟨st0, l, bad z 9⟩
  | k + 1 => fun l z => if z = 0 then stmtP (expr N k) (until_ (stmt N k) N) l z else ⟨st0, l, z⟩
def fn (N : Nat) : Reader Fn := fun l z =>
  let a := must 40 l z
  let t := name a.l a.z
  let b := must 40 t.l t.z
  let p := until_ name N b.l b.z
  let s := until_ (stmt N 11) N p.l p.z
  ⟨⟨t.v, p.v, s.v⟩, s.l, s.z⟩
def fnsP (N : Nat) : Nat → Reader (List Fn)
  | 0 => fun l z => ⟨[], l, z⟩
  | n + 1 => fun l z =>
    if z = 0 then
      if (skip l).isEmpty then ⟨[], [], z⟩
      else
        let r := fn N (skip l) z
        let q := fnsP N n r.l r.z
        ⟨r.v :: q.v, q.l, q.z⟩
    else ⟨[], l, z⟩

/- What is read gets shorter, or something is wrong. -/
theorem skip_skip (l : Bs) : skip (skip l) = skip l := by
  unfold skip
  induction l with
  | nil => rfl
  | cons c t ih =>
    by_cases h : blank c
    · simp [h, ih]
    · simp [h]
theorem skip_len (l : Bs) : (skip l).length ≤ l.length := (List.dropWhile_sublist _).length_le
theorem bad_ne (z e : Int) (he : e ≠ 0) : bad z e ≠ 0 := by unfold bad; split <;> assumption
theorem bad_of {z e : Int} (hz : z ≠ 0) : bad z e = z := by simp [bad, hz]
theorem bad_zero (e : Int) : bad 0 e = e := rfl
def Small {α : Type} (f : Reader α) : Prop := ∀ l z, (f l z).l.length ≤ l.length
def Keeps {α : Type} (f : Reader α) : Prop := ∀ l z, z ≠ 0 → (f l z).z = z
def Less {α : Type} (f : Reader α) : Prop := ∀ l, (f l 0).z = 0 → (f l 0).l.length < l.length
theorem must_small (c : UInt8) : Small (must c) := by
  intro l z
  have h := skip_len l
  unfold must
  split
  · simp
  · rename_i d t hs
    rw [hs] at h
    simp at h
    split
    · simp; omega
    · simpa using h
theorem must_keeps (c : UInt8) : Keeps (must c) := by
  intro l z hz
  unfold must
  split
  · simp [bad_of hz]
  · split <;> simp [bad_of hz]
theorem must_less (c : UInt8) : Less (must c) := by
  intro l
  have h := skip_len l
  unfold must
  split
  · simp [bad]
  · rename_i d t hs
    rw [hs] at h
    simp at h
    split
    · simp; omega
    · simp [bad]
theorem wordZ_keeps (m w : Bs) {z : Int} (hz : z ≠ 0) : wordZ m w z = z := by
  unfold wordZ; split
  · split <;> simp [bad_of hz]
  · rfl
theorem word_small : Small word := by
  intro l z
  exact Nat.le_trans (List.dropWhile_sublist _).length_le (skip_len l)
theorem word_keeps : Keeps word := fun _ _ hz => wordZ_keeps _ _ hz
theorem word_less : Less word := by
  intro l h
  have h1 := skip_len l
  have h2 : ((skip l).takeWhile inW).length + ((skip l).dropWhile inW).length = (skip l).length := by
    rw [← List.length_append, List.takeWhile_append_dropWhile]
  have h3 : (skip l).takeWhile inW ≠ [] := by
    intro e
    have : wordZ (skip l) ((skip l).takeWhile inW) 0 ≠ 0 := by
      rw [e]; unfold wordZ; simp; split <;> simp [bad]
    exact this h
  have h4 : 0 < ((skip l).takeWhile inW).length := by
    cases hq : (skip l).takeWhile inW with
    | nil => exact absurd hq h3
    | cons a b => simp
  show ((skip l).dropWhile inW).length < l.length
  omega
theorem name_small : Small name := fun l z => word_small l z
theorem name_keeps : Keeps name := by
  intro l z hz
  show (if isName (word l z).v then (word l z).z else bad (word l z).z 7) = z
  rw [word_keeps l z hz]
  split
  · rfl
  · exact bad_of hz
theorem name_less : Less name := by
  intro l h
  refine word_less l ?_
  by_cases h2 : (word l 0).z = 0
  · exact h2
  · exfalso
    revert h
    show (if isName (word l 0).v then (word l 0).z else bad (word l 0).z 7) = 0 → False
    split
    · exact h2
    · rw [bad_of h2]; exact h2
theorem until_small {α : Type} {one : Reader α} (h : Small one) : ∀ n, Small (until_ one n)
  | 0, _, _ => Nat.le_refl _
  | n + 1, l, z => by
    have h1 := skip_len l
    unfold until_
    split
    · split
      · simp; omega
      · have h2 := h (skip l) z
        have h3 := until_small h n (one (skip l) z).l (one (skip l) z).z
        simp only
        omega
    · exact must_small 41 l z
theorem until_keeps {α : Type} {one : Reader α} : ∀ n, Keeps (until_ one n)
  | 0, _, _, _ => rfl
  | n + 1, l, z, hz => by
    unfold until_
    rw [if_neg hz]
    exact must_keeps 41 l z hz
theorem times_small {α : Type} {one : Reader α} (h : Small one) : ∀ n, Small (times one n)
  | 0, _, _ => Nat.le_refl _
  | n + 1, l, z => Nat.le_trans (times_small h n _ _) (h l z)
theorem times_keeps {α : Type} {one : Reader α} (h : Keeps one) : ∀ n, Keeps (times one n)
  | 0, _, _, _ => rfl
  | n + 1, l, z, hz => by
    have h1 := h l z hz
    show (times one n (one l z).l (one l z).z).z = z
    rw [h1]
    exact times_keeps h n _ z hz
theorem times_length {α : Type} {one : Reader α} : ∀ n l z, (times one n l z).v.length = n
  | 0, _, _ => rfl
  | n + 1, l, z => by
    show (_ :: _).length = _
    simp [times_length n]
theorem wordEZ_keeps (w : Bs) {z : Int} (hz : z ≠ 0) : wordEZ w z = z := by
  unfold wordEZ; split <;> split <;> simp [bad_of hz]
theorem headZ_keeps (w : Bs) {z : Int} (hz : z ≠ 0) : headZ w z = z := by
  unfold headZ; split <;> simp [bad_of hz]
theorem quoted_small (t : Bs) (z : Int) : (quoted t z).l.length ≤ t.length := by
  unfold quoted
  split
  · exact Nat.le_refl _
  · rename_i a r h
    have := (List.dropWhile_sublist (l := t) noQ).length_le
    rw [h] at this
    simp at this ⊢
    omega
theorem formed_small {args : Reader (List Ex)} (h : Small args) (t : Bs) (z : Int) : (formed args t z).l.length ≤ t.length :=
  Nat.le_trans (h _ _) (word_small t z)
theorem expr_small (N : Nat) : ∀ k, Small (expr N k)
  | 0, _, _ => Nat.le_refl _
  | k + 1, l, z => by
    have h := skip_len l
    unfold expr
    split
    · split
      · have := word_small [] z
        exact Nat.le_trans this (by simp)
      · rename_i c t hs
        rw [hs] at h
        simp at h
        split
        · have := quoted_small t z; omega
        · split
          · have := formed_small (until_small (expr_small N k) N) t z; omega
          · have := word_small (c :: t) z
            show (word (c :: t) z).l.length ≤ _
            simp at this
            omega
    · exact Nat.le_refl _
theorem expr_keeps (N : Nat) : ∀ k, Keeps (expr N k)
  | 0, _, _, hz => bad_of hz
  | k + 1, l, z, hz => by
    unfold expr
    rw [if_neg hz]
theorem wordEZ_ok {w : Bs} {z : Int} (h : wordEZ w z = 0) : z = 0 := by
  by_cases hz : z = 0
  · exact hz
  · rw [wordEZ_keeps w hz] at h; exact h
theorem expr_less (N : Nat) : ∀ k, Less (expr N k)
  | 0, l => by intro h; exact absurd h (bad_ne 0 9 (by decide))
  | k + 1, l => by
    have h := skip_len l
    unfold expr
    rw [if_pos rfl]
    split
    · intro h1
      have h2 := wordEZ_ok (show wordEZ (word [] 0).v (word [] 0).z = 0 from h1)
      have := word_less [] h2
      simp at this
    · rename_i c t hs
      rw [hs] at h
      simp at h
      split
      · intro _; have := quoted_small t 0; omega
      · split
        · intro _; have := formed_small (until_small (expr_small N k) N) t 0; omega
        · intro h1
          have h2 := word_less (c :: t) (wordEZ_ok (show wordEZ (word (c :: t) 0).v (word (c :: t) 0).z = 0 from h1))
          simp at h2
          show (word (c :: t) 0).l.length < _
          omega
theorem optName_small (k : Nat) : Small (optName k) := by
  intro l z; unfold optName; split
  · exact name_small l z
  · exact Nat.le_refl _
theorem optName_keeps (k : Nat) : Keeps (optName k) := by
  intro l z hz; unfold optName; split
  · exact name_keeps l z hz
  · rfl
theorem rest_small {nest : Reader (List St)} (h : Small nest) (k : Nat) : Small (restP nest k) := by
  intro l z
  unfold restP
  split
  · exact Nat.le_trans (must_small 41 _ _) (Nat.le_trans (h _ _) (Nat.le_trans (must_small 40 _ _) (Nat.le_trans (h _ _) (must_small 40 l z))))
  · split
    · exact h l z
    · exact must_small 41 l z
theorem rest_keeps {nest : Reader (List St)} (h : Keeps nest) (k : Nat) : Keeps (restP nest k) := by
  intro l z hz
  unfold restP
  split
  · have h1 := must_keeps 40 l z hz
    simp only
    rw [h1]
    have h2 := h (must 40 l z).l z hz
    rw [h2]
    have h3 := must_keeps 40 (nest (must 40 l z).l z).l z hz
    rw [h3]
    rw [h _ z hz]
    exact must_keeps 41 _ z hz
  · split
    · exact h l z hz
    · exact must_keeps 41 l z hz
theorem parts_small {e : Reader Ex} {nest : Reader (List St)} (he : Small e) (hn : Small nest) (k : Nat) : Small (parts e nest k) := fun l z =>
  Nat.le_trans (rest_small hn k _ _) (Nat.le_trans (times_small he _ _ _) (optName_small k l z))
theorem parts_keeps {e : Reader Ex} {nest : Reader (List St)} (he : Keeps e) (hn : Keeps nest) (k : Nat) : Keeps (parts e nest k) := by
  intro l z hz
  show (restP nest k (times e (argsOf k) (optName k l z).l (optName k l z).z).l (times e (argsOf k) (optName k l z).l (optName k l z).z).z).z = z
  rw [optName_keeps k l z hz, times_keeps he _ _ z hz, rest_keeps hn k _ z hz]
theorem stmtP_small {e : Reader Ex} {nest : Reader (List St)} (he : Small e) (hn : Small nest) : Small (stmtP e nest) := fun l z =>
  Nat.le_trans (parts_small he hn _ _ _) (Nat.le_trans (word_small _ _) (must_small 40 l z))
theorem stmt_small (N : Nat) : ∀ k, Small (stmt N k)
  | 0, _, _ => Nat.le_refl _
  | k + 1, l, z => by
    unfold stmt
    split
    · exact stmtP_small (expr_small N k) (until_small (stmt_small N k) N) l z
    · exact Nat.le_refl _
theorem stmt_keeps (N : Nat) : ∀ k, Keeps (stmt N k)
  | 0, _, _, hz => bad_of hz
  | k + 1, l, z, hz => by
    unfold stmt
    rw [if_neg hz]
theorem stmt_less (N : Nat) : ∀ k, Less (stmt N k)
  | 0, l => by intro h; exact absurd h (bad_ne 0 9 (by decide))
  | k + 1, l => by
    unfold stmt
    rw [if_pos rfl]
    intro h
    have hk := parts_keeps (expr_keeps N k) (until_keeps (one := stmt N k) N) (kindOf (word (must 40 l 0).l (must 40 l 0).z).v)
    by_cases hm : (must 40 l 0).z = 0
    · have := must_less 40 l hm
      exact Nat.lt_of_le_of_lt (Nat.le_trans (parts_small (expr_small N k) (until_small (stmt_small N k) N) _ _ _) (word_small _ _)) this
    · exfalso
      have hw := word_keeps (must 40 l 0).l _ hm
      have hz : (if kindOf (word (must 40 l 0).l (must 40 l 0).z).v = 0 then bad (word (must 40 l 0).l (must 40 l 0).z).z 1 else (word (must 40 l 0).l (must 40 l 0).z).z) = (must 40 l 0).z := by
        rw [hw]
        split
        · exact bad_of hm
        · rfl
      have h2 := hk (word (must 40 l 0).l (must 40 l 0).z).l (must 40 l 0).z hm
      rw [← hz] at h2
      have h3 : (stmtP (expr N k) (until_ (stmt N k) N) l 0).z = (if kindOf (word (must 40 l 0).l (must 40 l 0).z).v = 0 then bad (word (must 40 l 0).l (must 40 l 0).z).z 1 else (word (must 40 l 0).l (must 40 l 0).z).z) := h2
      rw [h3, hz] at h
      exact hm h
theorem fn_small (N : Nat) : Small (fn N) := fun l z =>
  Nat.le_trans (until_small (stmt_small N 11) N _ _) (Nat.le_trans (until_small name_small N _ _) (Nat.le_trans (must_small 40 _ _) (Nat.le_trans (name_small _ _) (must_small 40 l z))))
theorem fn_less (N : Nat) : Less (fn N) := by
  intro l h
  by_cases hm : (must 40 l 0).z = 0
  · have := must_less 40 l hm
    exact Nat.lt_of_le_of_lt (Nat.le_trans (until_small (stmt_small N 11) N _ _) (Nat.le_trans (until_small name_small N _ _) (Nat.le_trans (must_small 40 _ _) (name_small _ _)))) this
  · exfalso
    have h1 := name_keeps (must 40 l 0).l _ hm
    have h2 : (must 40 (name (must 40 l 0).l (must 40 l 0).z).l (name (must 40 l 0).l (must 40 l 0).z).z).z = (must 40 l 0).z := by rw [h1]; exact must_keeps 40 _ _ hm
    have h3 : (until_ name N (must 40 (name (must 40 l 0).l (must 40 l 0).z).l (name (must 40 l 0).l (must 40 l 0).z).z).l (must 40 (name (must 40 l 0).l (must 40 l 0).z).l (name (must 40 l 0).l (must 40 l 0).z).z).z).z = (must 40 l 0).z := by
      rw [h2]; exact until_keeps N _ _ hm
    have h4 : (fn N l 0).z = (must 40 l 0).z := by
      show (until_ (stmt N 11) N _ (until_ name N (must 40 (name (must 40 l 0).l (must 40 l 0).z).l (name (must 40 l 0).l (must 40 l 0).z).z).l (must 40 (name (must 40 l 0).l (must 40 l 0).z).l (name (must 40 l 0).l (must 40 l 0).z).z).z).z).z = _
      rw [h3]
      exact until_keeps N _ _ hm
    rw [h4] at h
    exact hm h
end Go.Proofs.Ytgocmpooppejdaa
