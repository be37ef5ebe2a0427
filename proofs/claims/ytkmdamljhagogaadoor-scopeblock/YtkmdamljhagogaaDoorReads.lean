/- What the reader makes of texts with names in them (no program). -/
import Derived.Test.YtkmdamljhagogaaDoorSpec
import Derived.Test.YtkmdamljhagogaaDoorParse
namespace Go.Proofs.YtkmdamljhagogaaDoor
open Go
theorem letter_in {c : UInt8} (h : letter c = true) : inW c = true ∧ blank c = false ∧ c ≠ 39 ∧ c ≠ 40 ∧ c ≠ 41 := by
  simp only [letter, Bool.and_eq_true, decide_eq_true_eq] at h
  have hne : ∀ k : UInt8, k.toNat < 97 → c ≠ k := fun k hk e => by subst e; omega
  have h1 := hne 32 (by decide)
  have h2 := hne 10 (by decide)
  have h3 := hne 40 (by decide)
  have h4 := hne 41 (by decide)
  have h5 := hne 39 (by decide)
  refine ⟨by simp [inW, ends, h1, h2, h3, h4, h5], by simp [blank, h1, h2], h5, h3, h4⟩
/-- A word of letters. -/
structure Nm (v : Bs) : Prop where
  all : ∀ c ∈ v, letter c = true
  pos : v ≠ []
theorem nm_of {v : Bs} (h : isName v = true) : Nm v := by
  simp only [isName, Bool.and_eq_true, decide_eq_true_eq, List.all_eq_true] at h
  exact ⟨h.1.1.2, by intro e; rw [e] at h; simp at h⟩
theorem Nm.skip {v : Bs} (h : Nm v) (r : Bs) : skip (v ++ r) = v ++ r := by
  cases v with
  | nil => exact absurd rfl h.pos
  | cons c t =>
    have := letter_in (h.all c (by simp))
    simp [Go.Proofs.YtkmdamljhagogaaDoor.skip, this.2.1]
theorem Nm.take {v : Bs} (h : Nm v) {c : UInt8} (hc : ends c = true) (r : Bs) : (v ++ c :: r).takeWhile inW = v ∧ (v ++ c :: r).dropWhile inW = c :: r := by
  have h1 : ∀ d ∈ v, inW d = true := fun d hd => (letter_in (h.all d hd)).1
  have h2 : inW c = false := by simp [inW, hc]
  exact ⟨by rw [List.takeWhile_append_of_pos h1]; simp [h2], by rw [List.dropWhile_append_of_pos h1]; simp [h2]⟩
theorem Nm.word {v : Bs} (h : Nm v) {c : UInt8} (hc : ends c = true) (r : Bs) : word (v ++ c :: r) 0 = ⟨v, c :: r, 0⟩ := by
  unfold Go.Proofs.YtkmdamljhagogaaDoor.word
  rw [h.skip, (h.take hc r).1, (h.take hc r).2]
  have : v.isEmpty = false := by cases v with
    | nil => exact absurd rfl h.pos
    | cons a b => rfl
  simp [wordZ, this]
theorem name_at {v : Bs} (h : isName v = true) {c : UInt8} (hc : ends c = true) (r : Bs) : name (v ++ c :: r) 0 = ⟨v, c :: r, 0⟩ := by
  unfold name
  rw [(nm_of h).word hc]
  simp [h]
theorem skip_blank (r : Bs) : skip (32 :: r) = skip r := by simp [skip, blank]
theorem skip_at {c : UInt8} (hc : blank c = false) (r : Bs) : skip (c :: r) = c :: r := by simp [skip, hc]
theorem word_blank (r : Bs) (z : Int) : word (32 :: r) z = word r z := by unfold word; rw [skip_blank]
theorem name_blank (r : Bs) (z : Int) : name (32 :: r) z = name r z := by unfold name; rw [word_blank]
theorem must_blank (c : UInt8) (r : Bs) (z : Int) : must c (32 :: r) z = must c r z := by unfold must; rw [skip_blank]
theorem expr_succ (N k : Nat) (l : Bs) : expr N (k + 1) l 0 = match skip l with
      | [] => single [] 0
      | c :: t => if c = 39 then quoted t 0 else if c = 40 then formed (until_ (expr N k) N) t 0 else single (c :: t) 0 := rfl
theorem until_succ {α : Type} (one : Reader α) (n : Nat) (l : Bs) : until_ one (n + 1) l 0 = if (skip l).head? = some 41 then ⟨[], (skip l).tail, 0⟩
      else ⟨(one (skip l) 0).v :: (until_ one n (one (skip l) 0).l (one (skip l) 0).z).v, (until_ one n (one (skip l) 0).l (one (skip l) 0).z).l, (until_ one n (one (skip l) 0).l (one (skip l) 0).z).z⟩ := by rw [until_]; simp
theorem expr_blank (N k : Nat) (r : Bs) : expr N (k + 1) (32 :: r) 0 = expr N (k + 1) r 0 := by rw [expr_succ, expr_succ, skip_blank]
theorem until_blank {α : Type} (one : Reader α) (n : Nat) (r : Bs) : until_ one (n + 1) (32 :: r) 0 = until_ one (n + 1) r 0 := by rw [until_succ, until_succ, skip_blank]
theorem must_at {c : UInt8} (hc : blank c = false) (r : Bs) (z : Int) : must c (c :: r) z = ⟨(), r, z⟩ := by unfold must; rw [skip_at hc]; simp
theorem until_fin {α : Type} (one : Reader α) (n : Nat) (r : Bs) : until_ one (n + 1) (41 :: r) 0 = ⟨[], r, 0⟩ := by rw [until_succ, skip_at (by decide)]; simp
theorem until_go {α : Type} (one : Reader α) (n : Nat) {c : UInt8} {t : Bs} (hb : blank c = false) (hc : c ≠ 41) {v : α} {r : Bs} (h : one (c :: t) 0 = ⟨v, r, 0⟩) : until_ one (n + 1) (c :: t) 0 = ⟨v :: (until_ one n r 0).v, (until_ one n r 0).l, (until_ one n r 0).z⟩ := by
  rw [until_succ, skip_at hb]
  simp only [List.head?_cons, Option.some.injEq, hc, if_false, h]
theorem dec_digit (u : Nat) : ∀ c ∈ Lib.decDigits u, c.toNat < 58 := by
  induction u using Nat.strongRecOn with
  | _ u ih =>
    intro c hc
    rw [Lib.decDigits] at hc
    split at hc
    · rename_i h
      have : c = UInt8.ofNat (48 + u) := by simpa using hc
      subst this
      rw [UInt8.toNat_ofNat']
      omega
    · rename_i h
      rcases List.mem_append.1 hc with h1 | h1
      · exact ih (u / 10) (by omega) c h1
      · have : c = UInt8.ofNat (48 + u % 10) := by simpa using h1
        subst this
        rw [UInt8.toNat_ofNat']
        omega
theorem numOf_name {v : Bs} (h : Nm v) : numOf v = none := by
  unfold numOf
  split
  · rename_i n _
    rw [if_neg]
    intro e
    cases v with
    | nil => exact h.pos rfl
    | cons c t =>
      have hl := h.all c (by simp)
      simp only [letter, Bool.and_eq_true, decide_eq_true_eq] at hl
      unfold Lib.itoa at e
      split at e
      · have : c = 45 := by injection e with e1 _; exact e1.symm
        subst this
        exact absurd hl.1 (by decide)
      · have := dec_digit n.toNat c (by rw [e]; simp)
        omega
  · rfl
theorem expr_name {v : Bs} (h : isName v = true) (N k : Nat) {c : UInt8} (hc : ends c = true) (r : Bs) : expr N (k + 1) (v ++ c :: r) 0 = ⟨.mk 3 0 v [], c :: r, 0⟩ := by
  have hn := nm_of h
  rw [expr_succ, hn.skip]
  cases v with
  | nil => exact absurd rfl hn.pos
  | cons d t =>
    have hd := letter_in (hn.all d (by simp))
    have hw := hn.word hc r
    simp only [List.cons_append] at hw ⊢
    simp only [hd.2.2.1, hd.2.2.2.1, if_false]
    unfold single
    rw [hw]
    simp [wordE, wordEZ, numOf_name hn, h]
theorem num1 : numOf [49] = some 1 := by kernel_rfl
theorem num2 : numOf [50] = some 2 := by kernel_rfl
theorem expr_one (N k : Nat) {c : UInt8} (hc : ends c = true) (r : Bs) : expr N (k + 1) (49 :: c :: r) 0 = ⟨.mk 1 1 [] [], c :: r, 0⟩ := by
  have h2 : inW c = false := by simp [inW, hc]
  have hw : word (49 :: c :: r) 0 = ⟨[49], c :: r, 0⟩ := by
    unfold word
    rw [skip_at (by decide), List.takeWhile_cons, List.dropWhile_cons, if_pos (by decide), if_pos (by decide), List.takeWhile_cons, List.dropWhile_cons, h2]
    simp [wordZ]
  rw [expr_succ, skip_at (by decide)]
  simp only [show ¬ (49 : UInt8) = 39 by decide, show ¬ (49 : UInt8) = 40 by decide, if_false]
  unfold single
  rw [hw]
  simp [wordE, wordEZ, num1, inInt]
theorem expr_two (N k : Nat) {c : UInt8} (hc : ends c = true) (r : Bs) : expr N (k + 1) (50 :: c :: r) 0 = ⟨.mk 1 2 [] [], c :: r, 0⟩ := by
  have h2 : inW c = false := by simp [inW, hc]
  have hw : word (50 :: c :: r) 0 = ⟨[50], c :: r, 0⟩ := by
    unfold word
    rw [skip_at (by decide), List.takeWhile_cons, List.dropWhile_cons, if_pos (by decide), if_pos (by decide), List.takeWhile_cons, List.dropWhile_cons, h2]
    simp [wordZ]
  rw [expr_succ, skip_at (by decide)]
  simp only [show ¬ (50 : UInt8) = 39 by decide, show ¬ (50 : UInt8) = 40 by decide, if_false]
  unfold single
  rw [hw]
  simp [wordE, wordEZ, num2, inInt]
theorem letters_nm {v : Bs} (h : v.all letter = true) (hp : v ≠ []) : Nm v := ⟨by simpa using h, hp⟩
theorem stmt_succ (N k : Nat) (l : Bs) : stmt N (k + 1) l 0 = stmtP (expr N k) (until_ (stmt N k) N) l 0 := by rw [stmt]; simp
/-- A statement whose word is w. -/
theorem stmt_word (N k : Nat) {w : Bs} (hw : Nm w) {c : UInt8} (hc : ends c = true) (r : Bs) (hk : kindOf w ≠ 0) : stmt N (k + 1) (40 :: (w ++ c :: r)) 0 = parts (expr N k) (until_ (stmt N k) N) (kindOf w) (c :: r) 0 := by
  rw [stmt_succ]
  unfold stmtP
  simp only [must_at (c := 40) (by decide), hw.word hc, hk, if_false]
theorem parts_one {e : Reader Ex} {nest : Reader (List St)} {k : Nat} (hk : argsOf k = 1) (h3 : k ≠ 3) (h4 : k ≠ 4) {l l1 r : Bs} {n : Bs} {x : Ex} (h1 : optName k l 0 = ⟨n, l1, 0⟩) (h2 : e l1 0 = ⟨x, 41 :: r, 0⟩) : parts e nest k l 0 = ⟨.mk k n [x] [] [], r, 0⟩ := by
  have ht : times e 1 l1 0 = ⟨[x], 41 :: r, 0⟩ := by
    show (⟨_, _, _⟩ : Rd (List Ex)) = _
    rw [h2]; rfl
  unfold parts restP
  rw [h1, hk]
  simp only [ht, h3, h4, if_false, must_at (c := 41) (by decide)]
theorem opt_at {v : Bs} (h : isName v = true) {k : Nat} (hk : k = 1 ∨ k = 2) (r : Bs) : optName k (32 :: (v ++ 32 :: r)) 0 = ⟨v, 32 :: r, 0⟩ := by
  unfold optName
  rw [if_pos hk, name_blank, name_at h (by decide)]
theorem let_at {v : Bs} (h : isName v = true) (N k : Nat) (r : Bs) : stmt N (k + 2) (40 :: 108 :: 101 :: 116 :: 32 :: (v ++ 32 :: 49 :: 41 :: r)) 0 = ⟨.mk 1 v [.mk 1 1 [] []] [] [], r, 0⟩ :=
  (stmt_word N (k + 1) (w := [108, 101, 116]) (c := 32) (letters_nm (by decide) (by decide)) (by decide) _ (by decide)).trans
    (parts_one (by decide) (by decide) (by decide) (opt_at h (.inl (by decide)) _) (by rw [expr_blank]; exact expr_one N k (by decide) r))
theorem let2_at {v : Bs} (h : isName v = true) (N k : Nat) (r : Bs) : stmt N (k + 2) (40 :: 108 :: 101 :: 116 :: 32 :: (v ++ 32 :: 50 :: 41 :: r)) 0 = ⟨.mk 1 v [.mk 1 2 [] []] [] [], r, 0⟩ :=
  (stmt_word N (k + 1) (w := [108, 101, 116]) (c := 32) (letters_nm (by decide) (by decide)) (by decide) _ (by decide)).trans
    (parts_one (by decide) (by decide) (by decide) (opt_at h (.inl (by decide)) _) (by rw [expr_blank]; exact expr_two N k (by decide) r))
theorem set2_at {v : Bs} (h : isName v = true) (N k : Nat) (r : Bs) : stmt N (k + 2) (40 :: 115 :: 101 :: 116 :: 32 :: (v ++ 32 :: 50 :: 41 :: r)) 0 = ⟨.mk 2 v [.mk 1 2 [] []] [] [], r, 0⟩ :=
  (stmt_word N (k + 1) (w := [115, 101, 116]) (c := 32) (letters_nm (by decide) (by decide)) (by decide) _ (by decide)).trans
    (parts_one (by decide) (by decide) (by decide) (opt_at h (.inr (by decide)) _) (by rw [expr_blank]; exact expr_two N k (by decide) r))
theorem say_at {v : Bs} (h : isName v = true) (N k : Nat) (r : Bs) : stmt N (k + 2) (40 :: 115 :: 97 :: 121 :: 32 :: (v ++ 41 :: r)) 0 = ⟨.mk 5 [] [.mk 3 0 v []] [] [], r, 0⟩ :=
  (stmt_word N (k + 1) (w := [115, 97, 121]) (c := 32) (letters_nm (by decide) (by decide)) (by decide) _ (by decide)).trans
    (parts_one (n := []) (l1 := 32 :: (v ++ 41 :: r)) (by decide) (by decide) (by decide) (by rfl) (by rw [expr_blank]; exact expr_name h N k (by decide) r))
/-- A block of a name that is let in it, and said. -/
theorem if_at {v : Bs} (h : isName v = true) (N k : Nat) (r : Bs) : stmt (N + 3) (k + 3) (40 :: 105 :: 102 :: 32 :: 49 :: 32 :: 40 :: 40 :: 108 :: 101 :: 116 :: 32 :: (v ++ 32 :: 49 :: 41 :: 32 :: 40 :: 115 :: 97 :: 121 :: 32 :: (v ++ 41 :: 41 :: 32 :: 40 :: 41 :: 41 :: r))) 0
    = ⟨.mk 3 [] [.mk 1 1 [] []] [.mk 1 v [.mk 1 1 [] []] [] [], .mk 5 [] [.mk 3 0 v []] [] []] [], r, 0⟩ := by
  refine (stmt_word (N + 3) (k + 2) (w := [105, 102]) (c := 32) (letters_nm (by decide) (by decide)) (by decide) _ (by decide)).trans ?_
  have hin : until_ (stmt (N + 3) (k + 2)) (N + 3) (40 :: 108 :: 101 :: 116 :: 32 :: (v ++ 32 :: 49 :: 41 :: 32 :: 40 :: 115 :: 97 :: 121 :: 32 :: (v ++ 41 :: 41 :: 32 :: 40 :: 41 :: 41 :: r))) 0 = ⟨[.mk 1 v [.mk 1 1 [] []] [] [], .mk 5 [] [.mk 3 0 v []] [] []], 32 :: 40 :: 41 :: 41 :: r, 0⟩ := by
    rw [until_go _ _ (by decide) (by decide) (let_at h (N + 3) k _), until_blank, until_go _ _ (by decide) (by decide) (say_at h (N + 3) k _), until_fin]
  have ht : times (expr (N + 3) (k + 2)) 1 (32 :: 49 :: 32 :: 40 :: 40 :: 108 :: 101 :: 116 :: 32 :: (v ++ 32 :: 49 :: 41 :: 32 :: 40 :: 115 :: 97 :: 121 :: 32 :: (v ++ 41 :: 41 :: 32 :: 40 :: 41 :: 41 :: r))) 0 = ⟨[.mk 1 1 [] []], 32 :: 40 :: 40 :: 108 :: 101 :: 116 :: 32 :: (v ++ 32 :: 49 :: 41 :: 32 :: 40 :: 115 :: 97 :: 121 :: 32 :: (v ++ 41 :: 41 :: 32 :: 40 :: 41 :: 41 :: r)), 0⟩ := by
    show (⟨_, _, _⟩ : Rd (List Ex)) = _
    rw [expr_blank, expr_one (N + 3) (k + 1) (c := 32) (by decide)]
    rfl
  show parts _ _ 3 _ 0 = _
  unfold parts restP optName
  rw [if_neg (by decide), show argsOf 3 = 1 by decide]
  simp only [ht, if_true, must_blank, must_at (c := 40) (by decide), hin, until_fin, must_at (c := 41) (by decide)]
  rfl
/-- The function main of statements. -/
theorem main_at {N : Nat} {r : Bs} {b : List St} (hb : until_ (stmt (N + 3) 11) (N + 3) (32 :: r) 0 = ⟨b, [], 0⟩) (n : Nat) : fnsP (N + 3) (n + 2) (40 :: 109 :: 97 :: 105 :: 110 :: 32 :: 40 :: 41 :: 32 :: r) 0 = ⟨[⟨[109, 97, 105, 110], [], b⟩], [], 0⟩ := by
  have hm : fn (N + 3) (40 :: 109 :: 97 :: 105 :: 110 :: 32 :: 40 :: 41 :: 32 :: r) 0 = ⟨⟨[109, 97, 105, 110], [], b⟩, [], 0⟩ := by
    have hn : name (109 :: 97 :: 105 :: 110 :: 32 :: 40 :: 41 :: 32 :: r) 0 = ⟨[109, 97, 105, 110], 32 :: 40 :: 41 :: 32 :: r, 0⟩ := name_at (v := [109, 97, 105, 110]) (by decide) (c := 32) (by decide) _
    unfold fn
    simp only [must_at (c := 40) (by decide), hn, must_blank, until_fin, hb]
  have h0 : fnsP (N + 3) (n + 1) [] 0 = ⟨[], [], 0⟩ := by rw [fnsP]; simp [skip]
  rw [fnsP]
  simp only [if_true, skip_at (c := 40) (by decide), hm, h0]
  simp
abbrev ifT (v : Bs) : St := .mk 3 [] [.mk 1 1 [] []] [.mk 1 v [.mk 1 1 [] []] [] [], .mk 5 [] [.mk 3 0 v []] [] []] []
abbrev sayT (v : Bs) : St := .mk 5 [] [.mk 3 0 v []] [] []
abbrev letT (v : Bs) (n : Int) : St := .mk 1 v [.mk 1 n [] []] [] []
abbrev setT (v : Bs) : St := .mk 2 v [.mk 1 2 [] []] [] []
abbrev mainT (b : List St) : List Fn := [⟨[109, 97, 105, 110], [], b⟩]
def t1 (v : Bs) : Bs := 40 :: 109 :: 97 :: 105 :: 110 :: 32 :: 40 :: 41 :: 32 :: 40 :: 105 :: 102 :: 32 :: 49 :: 32 :: 40 :: 40 :: 108 :: 101 :: 116 :: 32 :: (v ++ 32 :: 49 :: 41 :: 32 :: 40 :: 115 :: 97 :: 121 :: 32 :: (v ++ 41 :: 41 :: 32 :: 40 :: 41 :: 41 :: 32 :: 40 :: 115 :: 97 :: 121 :: 32 :: (v ++ [41, 41])))
def t2 (v : Bs) : Bs := 40 :: 109 :: 97 :: 105 :: 110 :: 32 :: 40 :: 41 :: 32 :: 40 :: 105 :: 102 :: 32 :: 49 :: 32 :: 40 :: 40 :: 108 :: 101 :: 116 :: 32 :: (v ++ 32 :: 49 :: 41 :: 32 :: 40 :: 115 :: 97 :: 121 :: 32 :: (v ++ 41 :: 41 :: 32 :: 40 :: 41 :: 41 :: 32 :: 40 :: 108 :: 101 :: 116 :: 32 :: (v ++ 32 :: 50 :: 41 :: 32 :: 40 :: 115 :: 97 :: 121 :: 32 :: (v ++ [41, 41]))))
def t3 (v o : Bs) : Bs := 40 :: 109 :: 97 :: 105 :: 110 :: 32 :: 40 :: 41 :: 32 :: 40 :: 105 :: 102 :: 32 :: 49 :: 32 :: 40 :: 40 :: 108 :: 101 :: 116 :: 32 :: (v ++ 32 :: 49 :: 41 :: 32 :: 40 :: 115 :: 97 :: 121 :: 32 :: (v ++ 41 :: 41 :: 32 :: 40 :: 41 :: 41 :: 32 :: 40 :: 115 :: 101 :: 116 :: 32 :: (o ++ [32, 50, 41, 41])))
def t4 (v : Bs) : Bs := 40 :: 109 :: 97 :: 105 :: 110 :: 32 :: 40 :: 41 :: 32 :: 40 :: 108 :: 101 :: 116 :: 32 :: (v ++ 32 :: 49 :: 41 :: 32 :: 40 :: 108 :: 101 :: 116 :: 32 :: (v ++ [32, 50, 41, 41]))
theorem name_len {v : Bs} (h : isName v = true) : v.length ≤ 8 := by
  simp only [isName, Bool.and_eq_true, decide_eq_true_eq] at h
  omega
theorem ref_short {s : Bs} (h : s.length ≤ 1500) {l : List Fn} (hf : fnsP 1502 1502 s 0 = ⟨l, [], 0⟩) : refParse 1502 1502 s = (l, 0) := by
  unfold refParse finP
  rw [if_neg (by omega), hf]
  simp
theorem t1_at {v : Bs} (h : isName v = true) : refParse 1502 1502 (t1 v) = (mainT [ifT v, sayT v], 0) := by
  refine ref_short (by have := name_len h; simp [t1]; omega) (main_at (N := 1499) (n := 1500) ?_)
  rw [until_blank, until_go _ _ (by decide) (by decide) (if_at h 1499 8 _), until_blank, until_go _ _ (by decide) (by decide) (say_at h 1502 9 _), until_fin]
theorem t2_at {v : Bs} (h : isName v = true) : refParse 1502 1502 (t2 v) = (mainT [ifT v, letT v 2, sayT v], 0) := by
  refine ref_short (by have := name_len h; simp [t2]; omega) (main_at (N := 1499) (n := 1500) ?_)
  rw [until_blank, until_go _ _ (by decide) (by decide) (if_at h 1499 8 _), until_blank, until_go _ _ (by decide) (by decide) (let2_at h 1502 9 _), until_blank, until_go _ _ (by decide) (by decide) (say_at h 1502 9 _), until_fin]
theorem t3_at {v o : Bs} (h : isName v = true) (ho : isName o = true) : refParse 1502 1502 (t3 v o) = (mainT [ifT v, setT o], 0) := by
  refine ref_short (by have := name_len h; have := name_len ho; simp [t3]; omega) (main_at (N := 1499) (n := 1500) ?_)
  rw [until_blank, until_go _ _ (by decide) (by decide) (if_at h 1499 8 _), until_blank, until_go _ _ (by decide) (by decide) (set2_at ho 1502 9 _), until_fin]
theorem t4_at {v : Bs} (h : isName v = true) : refParse 1502 1502 (t4 v) = (mainT [letT v 1, letT v 2], 0) := by
  refine ref_short (by have := name_len h; simp [t4]; omega) (main_at (N := 1499) (n := 1500) ?_)
  rw [until_blank, until_go _ _ (by decide) (by decide) (let_at h 1502 9 _), until_blank, until_go _ _ (by decide) (by decide) (let2_at h 1502 9 _), until_fin]
theorem c1 (v : Bs) : checkC (mainT [ifT v, sayT v]) = 6 := by
  simp [checkC, headsC, firstP, dup, bodiesC, stsC, stC, exsC, exC, exE, exW, EW.or, CR.or, stE, stN1, stV1, WS.empty]
theorem c2 (v : Bs) : checkC (mainT [ifT v, letT v 2, sayT v]) = 0 := by
  simp [checkC, headsC, firstP, dup, bodiesC, stsC, stC, exsC, exC, exE, exW, EW.or, CR.or, stE, stN1, stV1, WS.empty]
theorem c3 (v o : Bs) : checkC (mainT [ifT v, setT o]) = 6 := by
  simp [checkC, headsC, firstP, dup, bodiesC, stsC, stC, exsC, exC, exE, exW, EW.or, CR.or, stE, stN1, stV1, WS.empty]
theorem c4 (v : Bs) : checkC (mainT [letT v 1, letT v 2]) = 7 := by
  simp [checkC, headsC, firstP, dup, bodiesC, stsC, stC, exsC, exC, exE, exW, EW.or, CR.or, stE, stN1, stV1, WS.empty]
end Go.Proofs.YtkmdamljhagogaaDoor
