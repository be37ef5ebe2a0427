/- Programs as texts: what text.Parse answers, as a function of the bytes (no program). -/
import Derived.WalkKit
namespace Go.Proofs.YtbplfhjpajkcoabDoor

abbrev Bs := List UInt8
/-- What was read, and what is left; or what is wrong. -/
inductive R (α : Type) where
  | bad (e : Int)
  | ok (a : α) (l : Bs)

inductive Ex where
  | mk (k n : Int) (t : Bs) (a : List Ex)
inductive St where
  | mk (k : Int) (t : Bs) (a : List Ex) (x y : List St)
structure Fn where
  t : Bs
  p : List Bs
  b : List St

def R.go {α β : Type} (r : R α) (g : α → Bs → R β) : R β :=
  match r with
  | .bad e => .bad e
  | .ok a l => g a l
def blank (c : UInt8) : Bool := c == 32 || c == 10
def ends (c : UInt8) : Bool := c == 32 || c == 10 || c == 40 || c == 41 || c == 39
def skip (l : Bs) : Bs := l.dropWhile blank
def inW (c : UInt8) : Bool := !ends c

structure Form where
  s : Int
  x : Int
  o : Int
  n : Nat
deriving DecidableEq
def form0 : Form := ⟨0, 0, 0, 0⟩
/-- The words of the language, the last one first. -/
def formsL : List (Bs × Form) :=
  [([61], ⟨0, 4, 5, 2⟩), ([60], ⟨0, 4, 4, 2⟩), ([42], ⟨0, 4, 3, 2⟩), ([45], ⟨0, 4, 2, 2⟩), ([43], ⟨0, 4, 1, 2⟩), ([103, 111], ⟨0, 10, 0, 1⟩), ([104, 101, 114, 101], ⟨0, 9, 0, 0⟩), ([97, 115, 107], ⟨0, 8, 0, 1⟩), ([114, 105, 103, 104, 116], ⟨0, 7, 0, 1⟩), ([108, 101, 102, 116], ⟨0, 6, 0, 1⟩), ([99, 101, 108, 108], ⟨0, 5, 0, 2⟩), ([100, 111], ⟨9, 0, 0, 1⟩), ([112, 117, 116, 114], ⟨8, 0, 0, 2⟩), ([112, 117, 116, 108], ⟨7, 0, 0, 2⟩), ([114, 101, 116, 117, 114, 110], ⟨6, 0, 0, 1⟩), ([115, 97, 121], ⟨5, 0, 0, 1⟩), ([119, 104, 105, 108, 101], ⟨4, 0, 0, 1⟩), ([105, 102], ⟨3, 0, 0, 1⟩), ([115, 101, 116], ⟨2, 0, 0, 1⟩), ([108, 101, 116], ⟨1, 0, 0, 1⟩)]
def formOf (w : Bs) : Form := ((formsL.find? fun p => p.1 == w).map Prod.snd).getD form0

def letter (c : UInt8) : Bool := decide (97 ≤ c.toNat) && decide (c.toNat ≤ 122)
def isName (w : Bs) : Bool := decide (w.length ≠ 0) && decide (w.length ≤ 8) && w.all letter && decide (formOf w = form0)
def wordC (c : UInt8) : Bool := decide (32 ≤ c.toNat) && decide (c.toNat ≤ 126) && decide (c.toNat ≠ 39)
def isWord (w : Bs) : Bool := decide (w.length ≤ 12) && w.all wordC

def bracketP (c : UInt8) (l : Bs) : R Unit :=
  match skip l with
  | [] => .bad 8
  | x :: t => if x = c then .ok () t else .bad 2
def wordP (l : Bs) : R Bs :=
  match skip l with
  | [] => .bad 8
  | x :: t => if ends x then .bad 2 else .ok ((x :: t).takeWhile inW) ((x :: t).dropWhile inW)
def nameP (l : Bs) : R Bs := (wordP l).go fun w l => if isName w then .ok w l else .bad 7
def noQ (c : UInt8) : Bool := !(c == 39)
def quotedP (l : Bs) : R Bs :=
  match l.dropWhile noQ with
  | [] => .bad 8
  | _ :: t => if isWord (l.takeWhile noQ) then .ok (l.takeWhile noQ) t else .bad 2

def many {α : Type} (one : Bs → R α) : Nat → Bs → R (List α)
  | 0, _ => .bad 0
  | n + 1, l =>
    match skip l with
    | [] => .bad 8
    | c :: t => if c = 41 then .ok [] t else (one (c :: t)).go fun x l => (many one n l).go fun xs l => .ok (x :: xs) l
def times {α : Type} (one : Bs → R α) : Nat → Bs → R (List α)
  | 0, l => .ok [] l
  | n + 1, l => (one l).go fun x l => (times one n l).go fun xs l => .ok (x :: xs) l

/-- Numbers: whether a word is one, and which (none: out of range). -/
structure Nums where
  is : Bs → Bool
  val : Bs → Option Int

def wordE (M : Nums) (w l : Bs) : R Ex :=
  if M.is w then
    match M.val w with
    | none => .bad 3
    | some n => .ok (.mk 1 n [] []) l
  else if isName w then .ok (.mk 3 0 w []) l else .bad 7
def singleP (M : Nums) (l : Bs) : R Ex := (wordP l).go (wordE M)
def headE (w : Bs) (xs : List Ex) (l : Bs) : R Ex :=
  if (formOf w).x = 0 then
    if 4 < xs.length then .bad 5 else .ok (.mk 11 0 w xs) l
  else if xs.length = (formOf w).n then .ok (.mk (formOf w).x (formOf w).o [] xs) l else .bad 5
def formedP (args : Bs → R (List Ex)) (l : Bs) : R Ex :=
  (wordP l).go fun w l => if (formOf w).x = 0 ∧ isName w = false then .bad 7 else (args l).go (headE w)
def quoteE (l : Bs) : R Ex := (quotedP l).go fun s l => .ok (.mk 2 0 s []) l
def exprK (M : Nums) (N : Nat) : Nat → Bs → R Ex
  | 0, l =>
    match skip l with
    | [] => .bad 8
    | c :: _ => if c = 41 then .bad 2 else .bad 9
  | k + 1, l =>
    match skip l with
    | [] => .bad 8
    | c :: t =>
      if c = 41 then .bad 2
      else if c = 39 then quoteE t
      else if c = 40 then formedP (many (exprK M N k) N) t
      else singleP M (c :: t)

/-- What a statement has behind its expressions. -/
def restP (nest : Bs → R (List St)) (s : Int) (l : Bs) : R (List St × List St) :=
  if s = 4 then (nest l).go fun x l => .ok (x, []) l
  else if s = 3 then (bracketP 40 l).go fun _ l => (nest l).go fun x l => (bracketP 40 l).go fun _ l => (nest l).go fun y l => (bracketP 41 l).go fun _ l => .ok (x, y) l
  else (bracketP 41 l).go fun _ l => .ok ([], []) l
def optName (s : Int) (l : Bs) : R Bs := if s = 1 ∨ s = 2 then nameP l else .ok [] l
def partsP (args : Nat → Bs → R (List Ex)) (nest : Bs → R (List St)) (f : Form) (l : Bs) : R St :=
  (optName f.s l).go fun t l => (args f.n l).go fun a l => (restP nest f.s l).go fun xy l => .ok (.mk f.s t a xy.1 xy.2) l
def stmtP (args : Nat → Bs → R (List Ex)) (nest : Bs → R (List St)) (l : Bs) : R St :=
  (bracketP 40 l).go fun _ l => (wordP l).go fun w l => if (formOf w).s = 0 then .bad 1 else partsP args nest (formOf w) l
def stmtK (M : Nums) (N : Nat) : Nat → Bs → R St
  | 0 => stmtP (times (exprK M N 0)) (fun _ => .bad 0)
  | k + 1 => stmtP (times (exprK M N (k + 1))) (many (stmtK M N k) N)
def fnP (M : Nums) (N : Nat) (l : Bs) : R Fn :=
  (bracketP 40 l).go fun _ l => (nameP l).go fun t l => (bracketP 40 l).go fun _ l => (many nameP N l).go fun p l => (many (stmtK M N 10) N l).go fun b l => .ok ⟨t, p, b⟩ l
def parseP (M : Nums) (N : Nat) : Nat → Bs → Except Int (List Fn)
  | 0, _ => .error 0
  | n + 1, l =>
    match skip l with
    | [] => .ok []
    | c :: t => match fnP M N (c :: t) with
      | .bad e => .error e
      | .ok f l' => match parseP M N n l' with
        | .error e => .error e
        | .ok fs => .ok (f :: fs)

/- Blanks ahead are no matter. -/
theorem skip_skip (l : Bs) : skip (skip l) = skip l := by
  unfold skip
  induction l with
  | nil => rfl
  | cons c t ih =>
    by_cases h : blank c
    · simp [h, ih]
    · simp [h]
theorem skip_head {l t : Bs} {c : UInt8} (h : skip l = c :: t) : blank c = false ∧ skip (c :: t) = c :: t := by
  have h1 := skip_skip l
  rw [h] at h1
  refine ⟨?_, h1⟩
  cases hb : blank c with
  | false => rfl
  | true =>
    exfalso
    have h2 : (skip (c :: t)).length ≤ t.length := by
      unfold skip
      simp only [List.dropWhile_cons, hb, if_true]
      exact (List.dropWhile_sublist _).length_le
    rw [h1] at h2
    simp at h2
    omega
theorem skip_len (l : Bs) : (skip l).length ≤ l.length := (List.dropWhile_sublist _).length_le

/- A line feed and a blank around each bracket. -/
def wide (c : UInt8) : Bs := if c = 40 ∨ c = 41 then [10, c, 32] else [c]
def B (l : Bs) : Bs := l.flatMap wide
theorem B_cons (c : UInt8) (t : Bs) : B (c :: t) = wide c ++ B t := by simp [B]
theorem B_plain {c : UInt8} (h : ¬ (c = 40 ∨ c = 41)) (t : Bs) : B (c :: t) = c :: B t := by simp [B, wide, h]
theorem B_bracket {c : UInt8} (h : c = 40 ∨ c = 41) (t : Bs) : B (c :: t) = 10 :: c :: 32 :: B t := by simp [B, wide, h]
/-- l' reads as l does, with blanks besides. -/
def Like (l l' : Bs) : Prop := skip l' = skip (B l)
def LikeR {α : Type} : R α → R α → Prop
  | .bad e, .bad e' => e = e'
  | .ok a l, .ok a' l' => a = a' ∧ Like l l' ∧ 39 ∉ l
  | _, _ => False
def Alike {α : Type} (f : Bs → R α) : Prop := ∀ l l', Like l l' → 39 ∉ l → LikeR (f l) (f l')

/-- One after the other. -/
theorem then_alike {α β : Type} {f : R α} {f' : R α} {g g' : α → Bs → R β} (h : LikeR f f') (hg : ∀ a l l', Like l l' → 39 ∉ l → LikeR (g a l) (g' a l')) :
    LikeR (f.go g) (f'.go g') := by
  revert h
  cases f <;> cases f' <;> intro h
  · exact h
  · exact h.elim
  · exact h.elim
  · obtain ⟨rfl, h1, h2⟩ := h
    exact hg _ _ _ h1 h2
theorem like_end {l l' : Bs} (h : Like l l') (hs : skip l = []) : skip l' = [] := by
  rw [h]
  clear h
  induction l with
  | nil => rfl
  | cons c t ih =>
    by_cases hb : blank c
    · have hn : ¬ (c = 40 ∨ c = 41) := by rintro (rfl | rfl) <;> simp [blank] at hb
      rw [B_plain hn]
      have h1 : skip (c :: t) = skip t := by simp [skip, hb]
      have h2 : skip (c :: B t) = skip (B t) := by simp [skip, hb]
      rw [h2]
      exact ih (h1 ▸ hs)
    · simp [skip, hb] at hs
theorem like_head {l l' : Bs} (h : Like l l') {c : UInt8} {t : Bs} (hs : skip l = c :: t) :
    if c = 40 ∨ c = 41 then skip l' = c :: 32 :: B t else skip l' = c :: B t := by
  rw [h]
  clear h
  induction l with
  | nil => simp [skip] at hs
  | cons x u ih =>
    by_cases hb : blank x
    · have hn : ¬ (x = 40 ∨ x = 41) := by rintro (rfl | rfl) <;> simp [blank] at hb
      rw [B_plain hn]
      have h1 : skip (x :: u) = skip u := by simp [skip, hb]
      have h2 : skip (x :: B u) = skip (B u) := by simp [skip, hb]
      rw [h2]
      exact ih (h1 ▸ hs)
    · have h1 : skip (x :: u) = x :: u := by simp [skip, hb]
      rw [h1] at hs
      obtain ⟨rfl, rfl⟩ := List.cons.inj hs
      split
      · rename_i hc
        rw [B_bracket hc]
        have : skip (10 :: x :: 32 :: B u) = skip (x :: 32 :: B u) := by simp [skip, blank]
        rw [this]
        simp [skip, hb]
      · rename_i hc
        rw [B_plain hc]
        simp [skip, hb]
theorem like_blank (t : Bs) : Like t (32 :: B t) := by simp [Like, skip, blank]
theorem like_B (t : Bs) : Like t (B t) := rfl
theorem mem_skip {l : Bs} (h : 39 ∉ l) : 39 ∉ skip l := fun hm => h ((List.dropWhile_sublist _).subset hm)
theorem take_B (l : Bs) : (B l).takeWhile inW = l.takeWhile inW ∧ (B l).dropWhile inW = B (l.dropWhile inW) := by
  induction l with
  | nil => exact ⟨rfl, rfl⟩
  | cons c t ih =>
    by_cases hc : c = 40 ∨ c = 41
    · have he : inW c = false := by rcases hc with rfl | rfl <;> rfl
      have h10 : inW 10 = false := rfl
      rw [B_bracket hc]
      simp only [List.takeWhile_cons, List.dropWhile_cons, he, h10]
      simp [B_bracket hc]
    · rw [B_plain hc]
      by_cases he : inW c
      · simp only [List.takeWhile_cons, List.dropWhile_cons, he, if_true]
        exact ⟨by rw [ih.1], ih.2⟩
      · simp only [List.takeWhile_cons, List.dropWhile_cons, he]
        simp [B_plain hc]

theorem bracket_alike {c : UInt8} (hc : c = 40 ∨ c = 41) : Alike (bracketP c) := by
  intro l l' h hq
  have hq' := mem_skip hq
  unfold bracketP
  cases hs : skip l with
  | nil => rw [like_end h hs]; rfl
  | cons x t =>
    rw [hs] at hq'
    have := like_head h hs
    by_cases hx : x = 40 ∨ x = 41
    · rw [if_pos hx] at this
      rw [this]
      by_cases hxc : x = c
      · simp only [hxc, if_true]
        exact ⟨rfl, like_blank t, fun hm => hq' (List.mem_cons_of_mem _ hm)⟩
      · simp only [hxc, if_false]
        exact rfl
    · rw [if_neg hx] at this
      rw [this]
      have hxc : x ≠ c := by rintro rfl; exact hx hc
      simp only [hxc, if_false]
      exact rfl
theorem word_alike : Alike wordP := by
  intro l l' h hq
  have hq' := mem_skip hq
  unfold wordP
  cases hs : skip l with
  | nil => rw [like_end h hs]; rfl
  | cons x t =>
    rw [hs] at hq'
    have := like_head h hs
    by_cases hx : x = 40 ∨ x = 41
    · rw [if_pos hx] at this
      rw [this]
      have he : ends x = true := by rcases hx with rfl | rfl <;> rfl
      simp only [he, if_true]
      exact rfl
    · rw [if_neg hx] at this
      rw [this]
      by_cases he : ends x
      · simp only [he, if_true]
        exact rfl
      · simp only [he]
        have h2 := take_B (x :: t)
        rw [B_plain hx] at h2
        rw [h2.1, h2.2]
        exact ⟨rfl, like_B _, fun hm => hq' ((List.dropWhile_sublist _).subset hm)⟩
theorem name_alike : Alike nameP := by
  intro l l' h hq
  unfold nameP
  refine then_alike (word_alike l l' h hq) fun w l l' h hq => ?_
  split
  · exact ⟨rfl, h, hq⟩
  · exact rfl
theorem like_skip {l l' : Bs} (h : Like l l') {c : UInt8} {t t' : Bs} (hs : skip l = c :: t) (hs' : skip l' = c :: t') : Like (c :: t) (c :: t') := by
  have h1 := like_head h hs
  have h2 := (skip_head hs).2
  have h3 := (skip_head hs').2
  have h4 := like_head (like_B (c :: t)) h2
  unfold Like
  rw [h3, ← hs']
  split at h1 <;> rename_i hc
  · rw [if_pos hc] at h4
    rw [h1, h4]
  · rw [if_neg hc] at h4
    rw [h1, h4]
theorem like_heads {l l' : Bs} (h : Like l l') {c : UInt8} {t : Bs} (hs : skip l = c :: t) : ∃ t', skip l' = c :: t' ∧ (c = 40 ∨ c = 41 → Like t t') := by
  have h1 := like_head h hs
  split at h1 <;> rename_i hc
  · exact ⟨_, h1, fun _ => like_blank t⟩
  · exact ⟨_, h1, fun h => (hc h).elim⟩
theorem many_alike {α : Type} {one : Bs → R α} (h1 : Alike one) : ∀ n, Alike (many one n)
  | 0 => fun _ _ _ _ => rfl
  | n + 1 => by
    intro l l' h hq
    have hq' := mem_skip hq
    unfold many
    cases hs : skip l with
    | nil => rw [like_end h hs]; rfl
    | cons c t =>
      rw [hs] at hq'
      obtain ⟨t', hs', ht⟩ := like_heads h hs
      rw [hs']
      dsimp only
      by_cases hc : c = 41
      · simp only [hc, if_true]
        exact ⟨rfl, ht (.inr hc), fun hm => hq' (List.mem_cons_of_mem _ hm)⟩
      · simp only [hc, if_false]
        exact then_alike (h1 _ _ (like_skip h hs hs') hq') fun x l l' h hq => then_alike (many_alike h1 n _ _ h hq) fun xs l l' h hq => ⟨rfl, h, hq⟩
theorem times_alike {α : Type} {one : Bs → R α} (h1 : Alike one) : ∀ n, Alike (times one n)
  | 0 => fun _ _ h hq => ⟨rfl, h, hq⟩
  | n + 1 => by
    intro l l' h hq
    unfold times
    exact then_alike (h1 _ _ h hq) fun x l l' h hq => then_alike (times_alike h1 n _ _ h hq) fun xs l l' h hq => ⟨rfl, h, hq⟩
theorem single_alike (M : Nums) : Alike (singleP M) := by
  intro l l' h hq
  unfold singleP
  refine then_alike (word_alike l l' h hq) fun w l l' h hq => ?_
  unfold wordE
  split
  · split
    · exact rfl
    · exact ⟨rfl, h, hq⟩
  · split
    · exact ⟨rfl, h, hq⟩
    · exact rfl
theorem head_alike (w : Bs) (xs : List Ex) (l l' : Bs) (h : Like l l') (hq : 39 ∉ l) : LikeR (headE w xs l) (headE w xs l') := by
  unfold headE
  split
  · split
    · exact rfl
    · exact ⟨rfl, h, hq⟩
  · split
    · exact ⟨rfl, h, hq⟩
    · exact rfl
theorem formed_alike {args : Bs → R (List Ex)} (ha : Alike args) : Alike (formedP args) := by
  intro l l' h hq
  unfold formedP
  refine then_alike (word_alike l l' h hq) fun w l l' h hq => ?_
  split
  · exact rfl
  · exact then_alike (ha _ _ h hq) (head_alike w)
theorem expr_alike (M : Nums) (N : Nat) : ∀ k, Alike (exprK M N k)
  | 0 => by
    intro l l' h hq
    unfold exprK
    cases hs : skip l with
    | nil => rw [like_end h hs]; rfl
    | cons c t =>
      obtain ⟨t', hs', ht⟩ := like_heads h hs
      rw [hs']
      dsimp only
      split <;> exact rfl
  | k + 1 => by
    intro l l' h hq
    have hq' := mem_skip hq
    unfold exprK
    cases hs : skip l with
    | nil => rw [like_end h hs]; rfl
    | cons c t =>
      rw [hs] at hq'
      obtain ⟨t', hs', ht⟩ := like_heads h hs
      rw [hs']
      dsimp only
      by_cases hc : c = 41
      · simp only [hc, if_true]
        exact rfl
      · have h39 : c ≠ 39 := by rintro rfl; exact hq' List.mem_cons_self
        simp only [hc, h39, if_false]
        by_cases h40 : c = 40
        · simp only [h40, if_true]
          exact formed_alike (many_alike (expr_alike M N k) N) _ _ (ht (.inl h40)) (fun hm => hq' (List.mem_cons_of_mem _ hm))
        · simp only [h40, if_false]
          exact single_alike M _ _ (like_skip h hs hs') hq'
theorem rest_alike {nest : Bs → R (List St)} (hn : Alike nest) (s : Int) : Alike (restP nest s) := by
  intro l l' h hq
  unfold restP
  split
  · exact then_alike (hn l l' h hq) fun a l l' h hq => ⟨rfl, h, hq⟩
  · split
    · exact then_alike (bracket_alike (.inl rfl) l l' h hq) fun a l l' h hq => then_alike (hn l l' h hq) fun a l l' h hq =>
        then_alike (bracket_alike (.inl rfl) l l' h hq) fun a l l' h hq => then_alike (hn l l' h hq) fun a l l' h hq =>
        then_alike (bracket_alike (.inr rfl) l l' h hq) fun a l l' h hq => ⟨rfl, h, hq⟩
    · exact then_alike (bracket_alike (.inr rfl) l l' h hq) fun a l l' h hq => ⟨rfl, h, hq⟩
theorem optName_alike (s : Int) : Alike (optName s) := by
  intro l l' h hq
  unfold optName
  split
  · exact name_alike l l' h hq
  · exact ⟨rfl, h, hq⟩
theorem stmtP_alike {args : Nat → Bs → R (List Ex)} (ha : ∀ n, Alike (args n)) {nest : Bs → R (List St)} (hn : Alike nest) : Alike (stmtP args nest) := by
  intro l l' h hq
  unfold stmtP
  refine then_alike (bracket_alike (.inl rfl) l l' h hq) fun a l l' h hq => then_alike (word_alike l l' h hq) fun w l l' h hq => ?_
  split
  · exact rfl
  · unfold partsP
    exact then_alike (optName_alike _ l l' h hq) fun a l l' h hq => then_alike (ha _ l l' h hq) fun a l l' h hq => then_alike (rest_alike hn _ l l' h hq) fun a l l' h hq => ⟨rfl, h, hq⟩
theorem stmt_alike (M : Nums) (N : Nat) : ∀ k, Alike (stmtK M N k)
  | 0 => by
    unfold stmtK
    exact stmtP_alike (fun n => times_alike (expr_alike M N 0) n) (fun _ _ _ _ => rfl)
  | k + 1 => by
    unfold stmtK
    exact stmtP_alike (fun n => times_alike (expr_alike M N (k + 1)) n) (many_alike (stmt_alike M N k) N)
theorem fn_alike (M : Nums) (N : Nat) : Alike (fnP M N) := by
  intro l l' h hq
  unfold fnP
  exact then_alike (bracket_alike (.inl rfl) l l' h hq) fun a l l' h hq => then_alike (name_alike l l' h hq) fun a l l' h hq =>
    then_alike (bracket_alike (.inl rfl) l l' h hq) fun a l l' h hq => then_alike (many_alike name_alike N l l' h hq) fun a l l' h hq =>
    then_alike (many_alike (stmt_alike M N 10) N l l' h hq) fun a l l' h hq => ⟨rfl, h, hq⟩
theorem parse_alike (M : Nums) (N : Nat) : ∀ n l l', Like l l' → 39 ∉ l → parseP M N n l = parseP M N n l'
  | 0, _, _, _, _ => rfl
  | n + 1, l, l', h, hq => by
    have hq' := mem_skip hq
    unfold parseP
    cases hs : skip l with
    | nil => rw [like_end h hs]
    | cons c t =>
      rw [hs] at hq'
      obtain ⟨t', hs', ht⟩ := like_heads h hs
      rw [hs']
      dsimp only
      have := fn_alike M N _ _ (like_skip h hs hs') hq'
      revert this
      cases fnP M N (c :: t) <;> cases fnP M N (c :: t') <;> intro this
      · exact congrArg _ this
      · exact this.elim
      · exact this.elim
      · obtain ⟨rfl, h1, h2⟩ := this
        dsimp only
        rw [parse_alike M N n _ _ h1 h2]
/-- Blanks are no matter. -/
theorem parse_blank (M : Nums) (N n : Nat) (l : Bs) (hq : 39 ∉ l) : parseP M N n l = parseP M N n (B l) := parse_alike M N n l (B l) (like_B l) hq

/- One behind the other. -/
/-- What stands behind ends every word. -/
def Stop (u : Bs) : Prop := u = [] ∨ ∃ c t, u = c :: t ∧ ends c = true
def More {α : Type} (f : Bs → R α) : Prop := ∀ l u a l', Stop u → f l = .ok a l' → f (l ++ u) = .ok a (l' ++ u)
theorem skip_more {l u t : Bs} {c : UInt8} (h : skip l = c :: t) : skip (l ++ u) = c :: (t ++ u) := by
  induction l with
  | nil => simp [skip] at h
  | cons x v ih =>
    by_cases hb : blank x
    · have h1 : skip (x :: v) = skip v := by simp [skip, hb]
      have h2 : skip (x :: v ++ u) = skip (v ++ u) := by simp [skip, hb]
      rw [h2]
      exact ih (h1 ▸ h)
    · have h1 : skip (x :: v) = x :: v := by simp [skip, hb]
      rw [h1] at h
      obtain ⟨rfl, rfl⟩ := List.cons.inj h
      simp [skip, hb]
theorem skip_none {l u : Bs} (h : skip l = []) : skip (l ++ u) = skip u := by
  induction l with
  | nil => rfl
  | cons x v ih =>
    by_cases hb : blank x
    · have h1 : skip (x :: v) = skip v := by simp [skip, hb]
      have h2 : skip (x :: v ++ u) = skip (v ++ u) := by simp [skip, hb]
      rw [h2]
      exact ih (h1 ▸ h)
    · simp [skip, hb] at h
theorem go_ok {α β : Type} {r : R α} {g : α → Bs → R β} {b : β} {l : Bs} (h : r.go g = .ok b l) : ∃ a l1, r = .ok a l1 ∧ g a l1 = .ok b l := by
  cases r with
  | bad e => exact absurd h (by simp [R.go])
  | ok a l1 => exact ⟨a, l1, rfl, h⟩
theorem go_of {α β : Type} {r : R α} {g : α → Bs → R β} {a : α} {l : Bs} (h : r = .ok a l) : r.go g = g a l := by rw [h]; rfl
theorem more_then {α β : Type} {f : Bs → R α} {g : α → Bs → R β} (hf : More f) (hg : ∀ a, More (g a)) : More fun l => (f l).go g := by
  intro l u b l' hu h
  obtain ⟨a, l1, h1, h2⟩ := go_ok h
  show (f (l ++ u)).go g = _
  rw [go_of (hf l u a l1 hu h1)]
  exact hg a l1 u b l' hu h2
theorem more_ok {α : Type} (a : α) : More fun l => R.ok a l := by
  intro l u b l' hu h
  cases h
  rfl
theorem more_bad {α : Type} (e : Int) : More fun _ : Bs => (R.bad e : R α) := by
  intro l u b l' hu h
  cases h
theorem more_if {α : Type} {f g : Bs → R α} {p : Prop} [Decidable p] (hf : More f) (hg : More g) : More fun l => if p then f l else g l := by
  by_cases h : p
  · simp only [h, if_true]; exact hf
  · simp only [h, if_false]; exact hg
theorem bracket_more (c : UInt8) : More (bracketP c) := by
  intro l u a l' hu h
  unfold bracketP at h ⊢
  cases hs : skip l with
  | nil => rw [hs] at h; cases h
  | cons x t =>
    rw [hs] at h
    rw [skip_more hs]
    dsimp only at h ⊢
    split at h
    · rename_i hx
      rw [if_pos hx]
      cases h
      rfl
    · cases h
theorem take_stop {u : Bs} (hu : Stop u) : ∀ l : Bs, (l ++ u).takeWhile inW = l.takeWhile inW ∧ (l ++ u).dropWhile inW = l.dropWhile inW ++ u
  | [] => by
    rcases hu with rfl | ⟨c, t, rfl, hc⟩
    · exact ⟨rfl, rfl⟩
    · have : inW c = false := by simp [inW, hc]
      simp [this]
  | x :: l => by
    by_cases hx : inW x
    · simp [hx, take_stop hu l]
    · simp [hx]
theorem word_more : More wordP := by
  intro l u a l' hu h
  unfold wordP at h ⊢
  cases hs : skip l with
  | nil => rw [hs] at h; cases h
  | cons x t =>
    rw [hs] at h
    rw [skip_more hs]
    dsimp only at h ⊢
    split at h
    · cases h
    · rename_i he
      rw [if_neg he]
      have := take_stop hu (x :: t)
      rw [List.cons_append] at this
      rw [this.1, this.2]
      cases h
      rfl
theorem name_more : More nameP := more_then word_more fun _ => more_if (more_ok _) (more_bad _)
theorem quoted_more : More quotedP := by
  intro l u a l' hu h
  have key : ∀ l : Bs, ∀ c t, l.dropWhile noQ = c :: t → (l ++ u).dropWhile noQ = c :: (t ++ u) ∧ (l ++ u).takeWhile noQ = l.takeWhile noQ := by
    intro l
    induction l with
    | nil => intro c t h; simp at h
    | cons x v ih =>
      intro c t h
      by_cases hx : noQ x
      · simp only [List.dropWhile_cons, hx, if_true] at h
        have := ih c t h
        simp [hx, this]
      · simp only [List.dropWhile_cons, hx] at h
        obtain ⟨rfl, rfl⟩ := List.cons.inj (by simpa using h)
        simp [hx]
  unfold quotedP at h ⊢
  cases hs : l.dropWhile noQ with
  | nil => rw [hs] at h; cases h
  | cons x t =>
    rw [hs] at h
    rw [(key l x t hs).1, (key l x t hs).2]
    dsimp only at h ⊢
    split at h
    · rename_i hw
      rw [if_pos hw]
      cases h
      rfl
    · cases h
theorem many_more {α : Type} {one : Bs → R α} (h1 : More one) : ∀ n, More (many one n)
  | 0 => more_bad _
  | n + 1 => by
    intro l u a l' hu h
    unfold many at h ⊢
    cases hs : skip l with
    | nil => rw [hs] at h; cases h
    | cons x t =>
      rw [hs] at h
      rw [skip_more hs]
      dsimp only at h ⊢
      split at h
      · rename_i hx
        rw [if_pos hx]
        cases h
        rfl
      · rename_i hx
        rw [if_neg hx]
        exact more_then h1 (fun _ => more_then (many_more h1 n) fun _ => more_ok _) (x :: t) u a l' hu h
theorem times_more {α : Type} {one : Bs → R α} (h1 : More one) : ∀ n, More (times one n)
  | 0 => more_ok _
  | n + 1 => more_then h1 (fun _ => more_then (times_more h1 n) fun _ => more_ok _)
theorem wordE_more (M : Nums) (w : Bs) : More (wordE M w) := by
  intro l u a l' hu h
  unfold wordE at h ⊢
  split at h
  · rename_i hi
    rw [if_pos hi]
    split at h
    · cases h
    · cases h; rfl
  · rename_i hi
    rw [if_neg hi]
    split at h
    · rename_i hx
      rw [if_pos hx]
      cases h; rfl
    · cases h
theorem single_more (M : Nums) : More (singleP M) := more_then word_more (wordE_more M)
theorem head_more (w : Bs) (xs : List Ex) : More (headE w xs) := more_if (more_if (more_bad _) (more_ok _)) (more_if (more_ok _) (more_bad _))
theorem formed_more {args : Bs → R (List Ex)} (ha : More args) : More (formedP args) := more_then word_more fun _ => more_if (more_bad _) (more_then ha (head_more _))
theorem quoteE_more : More quoteE := more_then quoted_more fun _ => more_ok _
theorem expr_more (M : Nums) (N : Nat) : ∀ k, More (exprK M N k)
  | 0 => by
    intro l u a l' hu h
    unfold exprK at h
    split at h
    · cases h
    · split at h <;> cases h
  | k + 1 => by
    intro l u a l' hu h
    unfold exprK at h ⊢
    cases hs : skip l with
    | nil => rw [hs] at h; cases h
    | cons x t =>
      rw [hs] at h
      rw [skip_more hs]
      dsimp only at h ⊢
      split at h
      · cases h
      · rename_i h1
        rw [if_neg h1]
        split at h
        · rename_i h2
          rw [if_pos h2]
          exact quoteE_more t u a l' hu h
        · rename_i h2
          rw [if_neg h2]
          split at h
          · rename_i h3
            rw [if_pos h3]
            exact formed_more (many_more (expr_more M N k) N) t u a l' hu h
          · rename_i h3
            rw [if_neg h3]
            exact single_more M (x :: t) u a l' hu h
theorem rest_more {nest : Bs → R (List St)} (hn : More nest) (s : Int) : More (restP nest s) :=
  more_if (more_then hn fun _ => more_ok _) (more_if (more_then (bracket_more _) fun _ => more_then hn fun _ => more_then (bracket_more _) fun _ => more_then hn fun _ => more_then (bracket_more _) fun _ => more_ok _) (more_then (bracket_more _) fun _ => more_ok _))
theorem optName_more (s : Int) : More (optName s) := more_if name_more (more_ok _)
theorem stmtP_more {args : Nat → Bs → R (List Ex)} (ha : ∀ n, More (args n)) {nest : Bs → R (List St)} (hn : More nest) : More (stmtP args nest) :=
  more_then (bracket_more _) fun _ => more_then word_more fun _ => more_if (more_bad _) (more_then (optName_more _) fun _ => more_then (ha _) fun _ => more_then (rest_more hn _) fun _ => more_ok _)
theorem stmt_more (M : Nums) (N : Nat) : ∀ k, More (stmtK M N k)
  | 0 => stmtP_more (fun n => times_more (expr_more M N 0) n) (more_bad _)
  | k + 1 => stmtP_more (fun n => times_more (expr_more M N (k + 1)) n) (many_more (stmt_more M N k) N)
theorem fn_more (M : Nums) (N : Nat) : More (fnP M N) :=
  more_then (bracket_more _) fun _ => more_then name_more fun _ => more_then (bracket_more _) fun _ => more_then (many_more name_more N) fun _ => more_then (many_more (stmt_more M N 10) N) fun _ => more_ok _
theorem parse_skip (M : Nums) (N n : Nat) {l l' : Bs} (h : skip l = skip l') : parseP M N n l = parseP M N n l' := by
  cases n with
  | zero => rfl
  | succ n => unfold parseP; rw [h]
theorem parse_fuel (M : Nums) (N : Nat) : ∀ n m l a, parseP M N n l = .ok a → parseP M N (n + m) l = .ok a
  | 0, m, l, a, h => by cases h
  | n + 1, m, l, a, h => by
    rw [show n + 1 + m = n + m + 1 by omega]
    unfold parseP at h ⊢
    cases hs : skip l with
    | nil => rw [hs] at h; exact h
    | cons c t =>
      rw [hs] at h
      dsimp only at h ⊢
      cases hf : fnP M N (c :: t) with
      | bad e => rw [hf] at h; cases h
      | ok f l' =>
        rw [hf] at h
        dsimp only at h ⊢
        cases hp : parseP M N n l' with
        | error e => rw [hp] at h; cases h
        | ok fs =>
          rw [hp] at h
          rw [parse_fuel M N n m l' fs hp]
          exact h
theorem parse_two (M : Nums) (N : Nat) {m : Nat} {u : Bs} {b : List Fn} (hu : Stop u) (hb : parseP M N m u = .ok b) : ∀ n l a, parseP M N n l = .ok a → parseP M N (n + m) (l ++ u) = .ok (a ++ b)
  | 0, l, a, h => by cases h
  | n + 1, l, a, h => by
    cases hs : skip l with
    | nil =>
      unfold parseP at h
      rw [hs] at h
      cases h
      rw [parse_skip M N _ (skip_none (u := u) hs), show n + 1 + m = m + (n + 1) by omega]
      exact parse_fuel M N m (n + 1) u b hb
    | cons c t =>
      rw [show n + 1 + m = n + m + 1 by omega]
      unfold parseP at h ⊢
      rw [hs] at h
      rw [skip_more hs]
      dsimp only at h ⊢
      cases hf : fnP M N (c :: t) with
      | bad e => rw [hf] at h; cases h
      | ok f l' =>
        rw [hf] at h
        have := fn_more M N (c :: t) u f l' hu hf
        rw [List.cons_append] at this
        rw [this]
        dsimp only at h ⊢
        cases hp : parseP M N n l' with
        | error e => rw [hp] at h; cases h
        | ok fs =>
          rw [hp] at h
          rw [parse_two M N hu hb n l' fs hp]
          cases h
          rfl
theorem parse_stop (M : Nums) (N : Nat) {m : Nat} {u : Bs} {b : List Fn} (hb : parseP M N m u = .ok b) : Stop u := by
  cases m with
  | zero => cases hb
  | succ m =>
    cases u with
    | nil => exact .inl rfl
    | cons c t =>
      refine .inr ⟨c, t, rfl, ?_⟩
      by_cases hc : blank c
      · simp only [blank, Bool.or_eq_true, beq_iff_eq] at hc
        rcases hc with rfl | rfl <;> rfl
      · have hs : skip (c :: t) = c :: t := by simp [skip, hc]
        unfold parseP at hb
        rw [hs] at hb
        dsimp only at hb
        have : c = 40 := by
          by_cases h40 : c = 40
          · exact h40
          · exfalso
            unfold fnP bracketP at hb
            rw [hs] at hb
            simp only [h40, if_false, R.go] at hb
            cases hb
        subst this
        rfl
/-- One behind the other. -/
theorem parse_joined (M : Nums) (N : Nat) {n m : Nat} {l u : Bs} {a b : List Fn} (ha : parseP M N n l = .ok a) (hb : parseP M N m u = .ok b) : parseP M N (n + m) (l ++ u) = .ok (a ++ b) :=
  parse_two M N (parse_stop M N hb) hb n l a ha

/- Something is read. -/
def Less {α : Type} (f : Bs → R α) : Prop := ∀ l a l', f l = .ok a l' → l'.length < l.length
def LessEq {α : Type} (f : Bs → R α) : Prop := ∀ l a l', f l = .ok a l' → l'.length ≤ l.length
theorem Less.le {α : Type} {f : Bs → R α} (h : Less f) : LessEq f := fun l a l' e => Nat.le_of_lt (h l a l' e)
theorem less_then {α β : Type} {f : Bs → R α} {g : α → Bs → R β} (hf : Less f) (hg : ∀ a, LessEq (g a)) : Less fun l => (f l).go g := by
  intro l b l' h
  obtain ⟨a, l1, h1, h2⟩ := go_ok h
  have := hf l a l1 h1
  have := hg a l1 b l' h2
  omega
theorem le_then {α β : Type} {f : Bs → R α} {g : α → Bs → R β} (hf : LessEq f) (hg : ∀ a, LessEq (g a)) : LessEq fun l => (f l).go g := by
  intro l b l' h
  obtain ⟨a, l1, h1, h2⟩ := go_ok h
  have := hf l a l1 h1
  have := hg a l1 b l' h2
  omega
theorem le_ok {α : Type} (a : α) : LessEq fun l => R.ok a l := by
  intro l b l' h
  cases h
  exact Nat.le_refl _
theorem less_bad {α : Type} (e : Int) : Less fun _ : Bs => (R.bad e : R α) := by
  intro l b l' h
  cases h
theorem le_if {α : Type} {f g : Bs → R α} {p : Prop} [Decidable p] (hf : LessEq f) (hg : LessEq g) : LessEq fun l => if p then f l else g l := by
  by_cases h : p
  · simp only [h, if_true]; exact hf
  · simp only [h, if_false]; exact hg
theorem bracket_less (c : UInt8) : Less (bracketP c) := by
  intro l a l' h
  have hk := skip_len l
  unfold bracketP at h
  cases hs : skip l with
  | nil => rw [hs] at h; cases h
  | cons x t =>
    rw [hs] at h hk
    dsimp only at h
    split at h
    · cases h
      simp at hk
      omega
    · cases h
theorem word_less : Less wordP := by
  intro l a l' h
  have hk := skip_len l
  unfold wordP at h
  cases hs : skip l with
  | nil => rw [hs] at h; cases h
  | cons x t =>
    rw [hs] at h hk
    dsimp only at h
    split at h
    · cases h
    · rename_i he
      have h1 : inW x = true := by simp [inW, he]
      cases h
      simp only [List.dropWhile_cons, h1, if_true]
      have : (t.dropWhile inW).length ≤ t.length := (List.dropWhile_sublist _).length_le
      simp at hk
      omega
theorem name_less : Less nameP := less_then word_less fun _ => le_if (le_ok _) (less_bad _).le
theorem quoted_less : Less quotedP := by
  intro l a l' h
  unfold quotedP at h
  have hk : (l.dropWhile noQ).length ≤ l.length := (List.dropWhile_sublist _).length_le
  cases hs : l.dropWhile noQ with
  | nil => rw [hs] at h; cases h
  | cons x t =>
    rw [hs] at h hk
    dsimp only at h
    split at h
    · cases h
      simp at hk
      omega
    · cases h
theorem many_less {α : Type} {one : Bs → R α} (h1 : LessEq one) : ∀ n, Less (many one n)
  | 0 => less_bad _
  | n + 1 => by
    intro l a l' h
    have hk := skip_len l
    unfold many at h
    cases hs : skip l with
    | nil => rw [hs] at h; cases h
    | cons x t =>
      rw [hs] at h hk
      dsimp only at h
      split at h
      · cases h
        simp at hk
        omega
      · obtain ⟨x1, l1, e1, h⟩ := go_ok h
        obtain ⟨xs, l2, e2, h⟩ := go_ok h
        have := h1 _ _ _ e1
        have := many_less h1 n _ _ _ e2
        cases h
        omega
theorem times_le {α : Type} {one : Bs → R α} (h1 : LessEq one) : ∀ n, LessEq (times one n)
  | 0 => le_ok _
  | n + 1 => le_then h1 (fun _ => le_then (times_le h1 n) fun _ => le_ok _)
theorem wordE_le (M : Nums) (w : Bs) : LessEq (wordE M w) := by
  intro l a l' h
  unfold wordE at h
  split at h
  · split at h
    · cases h
    · cases h; exact Nat.le_refl _
  · split at h
    · cases h; exact Nat.le_refl _
    · cases h
theorem single_less (M : Nums) : Less (singleP M) := less_then word_less (wordE_le M)
theorem head_le (w : Bs) (xs : List Ex) : LessEq (headE w xs) := le_if (le_if (less_bad _).le (le_ok _)) (le_if (le_ok _) (less_bad _).le)
theorem formed_less {args : Bs → R (List Ex)} (ha : LessEq args) : Less (formedP args) := less_then word_less fun _ => le_if (less_bad _).le (le_then ha (head_le _))
theorem quoteE_less : Less quoteE := less_then quoted_less fun _ => le_ok _
theorem expr_less (M : Nums) (N : Nat) : ∀ k, Less (exprK M N k)
  | 0 => by
    intro l a l' h
    unfold exprK at h
    split at h
    · cases h
    · split at h <;> cases h
  | k + 1 => by
    intro l a l' h
    have hk := skip_len l
    unfold exprK at h
    cases hs : skip l with
    | nil => rw [hs] at h; cases h
    | cons x t =>
      rw [hs] at h hk
      simp at hk
      dsimp only at h
      split at h
      · cases h
      · split at h
        · have := quoteE_less t a l' h
          omega
        · split at h
          · have := formed_less (many_less (expr_less M N k).le N).le t a l' h
            omega
          · have := single_less M (x :: t) a l' h
            simp at this
            omega
theorem rest_le {nest : Bs → R (List St)} (hn : LessEq nest) (s : Int) : LessEq (restP nest s) :=
  le_if (le_then hn fun _ => le_ok _) (le_if (le_then (bracket_less _).le fun _ => le_then hn fun _ => le_then (bracket_less _).le fun _ => le_then hn fun _ => le_then (bracket_less _).le fun _ => le_ok _) (le_then (bracket_less _).le fun _ => le_ok _))
theorem stmtP_less {args : Nat → Bs → R (List Ex)} (ha : ∀ n, LessEq (args n)) {nest : Bs → R (List St)} (hn : LessEq nest) : Less (stmtP args nest) :=
  less_then (bracket_less _) fun _ => le_then word_less.le fun _ => le_if (less_bad _).le (le_then (le_if name_less.le (le_ok _)) fun _ => le_then (ha _) fun _ => le_then (rest_le hn _) fun _ => le_ok _)
theorem stmt_less (M : Nums) (N : Nat) : ∀ k, Less (stmtK M N k)
  | 0 => stmtP_less (fun n => times_le (expr_less M N 0).le n) (less_bad _).le
  | k + 1 => stmtP_less (fun n => times_le (expr_less M N (k + 1)).le n) (many_less (stmt_less M N k).le N).le
theorem fn_less (M : Nums) (N : Nat) : Less (fnP M N) :=
  less_then (bracket_less _) fun _ => le_then name_less.le fun _ => le_then (bracket_less _).le fun _ => le_then (many_less name_less.le N).le fun _ => le_then (many_less (stmt_less M N 10).le N).le fun _ => le_ok _
end Go.Proofs.YtbplfhjpajkcoabDoor
