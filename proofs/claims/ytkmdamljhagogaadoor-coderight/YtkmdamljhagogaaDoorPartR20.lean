/- Shape3; VRange; Right0; RSts0; VGood. -/
import Derived.Maps.RangeWalk
import Derived.Deep.Onto
import Derived.Test.YtkmdamljhagogaaDoorPartR19
import Derived.Test.YtkmdamljhagogaaDoorPartR18
section
/- How many parts a right text's parts have, and which numbers, texts. -/
set_option maxHeartbeats 0
set_option maxRecDepth 100000
namespace Go.Proofs.YtkmdamljhagogaaDoor
open Go Go.RowKit
theorem exsR_of : ∀ {l : List Ex}, (∀ x ∈ l, exR x) → exsR l
  | [], _ => by rw [exsR]; trivial
  | x :: l, h => by
    rw [exsR]
    exact ⟨h x (List.mem_cons_self ..), exsR_of fun y hy => h y (List.mem_cons_of_mem _ hy)⟩
theorem stsR_of : ∀ {l : List St}, (∀ x ∈ l, stR x) → stsR l
  | [], _ => by rw [stsR]; trivial
  | x :: l, h => by
    rw [stsR]
    exact ⟨h x (List.mem_cons_self ..), stsR_of fun y hy => h y (List.mem_cons_of_mem _ hy)⟩
theorem wordE_r {w : Bs} {z : Int} (h : wordEZ w z = 0) : exR (wordE w) := by
  unfold wordEZ at h
  unfold wordE
  split
  · rename_i n hn
    rw [hn] at h
    simp only at h
    by_cases hi : inInt n = true
    · unfold inInt at hi
      simp only [Bool.and_eq_true, decide_eq_true_eq] at hi
      rw [exR]
      exact ⟨.inl ⟨rfl, rfl, hi.1, hi.2⟩, exsR_of (fun x hx => by simp at hx)⟩
    · rw [if_neg hi] at h; exact absurd h (bad_ok (by decide))
  · rw [exR]
    exact ⟨.inr (.inr (.inl ⟨rfl, rfl⟩)), exsR_of (fun x hx => by simp at hx)⟩
theorem quoted_r {t : Bs} (h : (quoted t 0).z = 0) : exR (quoted t 0).v := by
  revert h
  unfold quoted
  split
  · intro h; exact absurd h (bad_ne 0 8 (by decide))
  · intro h
    simp only at h ⊢
    by_cases hw : isWord (t.takeWhile noQ) = true
    · rw [exR]
      exact ⟨.inr (.inl ⟨rfl, rfl, hw⟩), exsR_of (fun x hx => by simp at hx)⟩
    · rw [if_neg hw] at h; exact absurd h (bad_ok (by decide))
theorem formOf_is (w : Bs) : formOf w = (4, 1, some 2) ∨ formOf w = (4, 2, some 2) ∨ formOf w = (4, 3, some 2) ∨ formOf w = (4, 4, some 2) ∨ formOf w = (4, 5, some 2) ∨ formOf w = (5, 0, some 2) ∨ formOf w = (6, 0, some 1) ∨ formOf w = (7, 0, some 1) ∨ formOf w = (8, 0, some 1) ∨ formOf w = (9, 0, some 0) ∨ formOf w = (10, 0, some 1) ∨ formOf w = (11, 0, none) := by
  unfold formOf
  repeat' split
  all_goals simp
theorem head_r (w : Bs) (n : Nat) (h : manyBad w n = false) : ∀ t, exE1 (formOf w).1 (formOf w).2.1 t n := by
  intro t
  unfold manyBad at h
  rcases formOf_is w with e | e | e | e | e | e | e | e | e | e | e | e
  all_goals
    rw [e] at h ⊢
    simp at h
    unfold exE1
    simp [h]
theorem formed_r {args : Reader (List Ex)} (hk : Keeps args) (ha : ∀ l, (args l 0).z = 0 → ∀ x ∈ (args l 0).v, exR x) {t : Bs} (h : (formed args t 0).z = 0) : exR (formed args t 0).v := by
  have h1 : (if manyBad (word t 0).v (args (word t 0).l (headZ (word t 0).v (word t 0).z)).v.length then bad (args (word t 0).l (headZ (word t 0).v (word t 0).z)).z 5 else (args (word t 0).l (headZ (word t 0).v (word t 0).z)).z) = 0 := h
  by_cases hm : manyBad (word t 0).v (args (word t 0).l (headZ (word t 0).v (word t 0).z)).v.length = true
  · rw [if_pos hm] at h1; exact absurd h1 (bad_ok (by decide))
  · rw [if_neg hm] at h1
    by_cases hh : headZ (word t 0).v (word t 0).z = 0
    · rw [hh] at h1 hm
      show exR (headE (word t 0).v (args (word t 0).l (headZ (word t 0).v (word t 0).z)).v)
      rw [hh]
      unfold headE
      rw [exR]
      exact ⟨head_r _ _ (by simpa using hm) _, exsR_of (ha _ h1)⟩
    · rw [hk _ _ hh] at h1; exact absurd h1 hh
theorem expr_r (N : Nat) : ∀ k l, (expr N k l 0).z = 0 → exR (expr N k l 0).v
  | 0, l => fun h => absurd h (bad_ne 0 9 (by decide))
  | k + 1, l => by
    unfold expr
    rw [if_pos rfl]
    split
    · intro h; unfold single at h ⊢; dsimp only at h ⊢; exact wordE_r h
    · split
      · intro h; exact quoted_r h
      · split
        · intro hz; exact formed_r (until_keeps N) (fun l h => (until_fine (one := expr N k) (Sh := exR) (c := exN) (fun l h => ⟨expr_r N k l h, (expr_fine N k l h).2⟩) N l h).1) hz
        · intro h; unfold single at h ⊢; dsimp only at h ⊢; exact wordE_r h
theorem times_len3 {α : Type} (one : Reader α) : ∀ (n : Nat) (l : Bs) (z : Int), (times one n l z).v.length = n
  | 0, _, _ => rfl
  | n + 1, l, z => by
    show (times one n _ _).v.length + 1 = n + 1
    rw [times_len3 one n]
theorem rest_r {nest : Reader (List St)} (hk : Keeps nest) (hn : Fine nest (fun v => ∀ x ∈ v, stR x) (fun v => (v.map stN).sum)) (k : Nat) :
    Fine (restP nest k) (fun v => (∀ s ∈ v.1, stR s) ∧ (∀ s ∈ v.2, stR s) ∧ (k ≠ 3 → k ≠ 4 → v.1 = []) ∧ (k ≠ 3 → v.2 = [])) (fun v => (v.1.map stN).sum + (v.2.map stN).sum) := by
  intro l
  unfold restP
  split
  · intro hz
    have hz1 : (must 41 (nest (must 40 (nest (must 40 l 0).l (must 40 l 0).z).l (nest (must 40 l 0).l (must 40 l 0).z).z).l (must 40 (nest (must 40 l 0).l (must 40 l 0).z).l (nest (must 40 l 0).l (must 40 l 0).z).z).z).l (nest (must 40 (nest (must 40 l 0).l (must 40 l 0).z).l (nest (must 40 l 0).l (must 40 l 0).z).z).l (must 40 (nest (must 40 l 0).l (must 40 l 0).z).l (nest (must 40 l 0).l (must 40 l 0).z).z).z).z).z = 0 := hz
    simp only
    have s1 := must_small 40 l 0
    generalize must 40 l 0 = m at hz1 s1 ⊢
    by_cases h1 : ¬ (m.z = 0)
    · rw [hk _ _ h1, must_keeps 40 _ _ h1, hk _ _ h1, must_keeps 41 _ _ h1] at hz1; exact absurd hz1 h1
    replace h1 := Decidable.not_not.1 h1
    rw [h1] at hz1 ⊢
    have f1 := hn m.l
    generalize nest m.l 0 = x at hz1 f1 ⊢
    by_cases h2 : ¬ (x.z = 0)
    · rw [must_keeps 40 _ _ h2, hk _ _ h2, must_keeps 41 _ _ h2] at hz1; exact absurd hz1 h2
    replace h2 := Decidable.not_not.1 h2
    rw [h2] at hz1 ⊢
    have s2 := must_small 40 x.l 0
    generalize must 40 x.l 0 = m2 at hz1 s2 ⊢
    by_cases h3 : ¬ (m2.z = 0)
    · rw [hk _ _ h3, must_keeps 41 _ _ h3] at hz1; exact absurd hz1 h3
    replace h3 := Decidable.not_not.1 h3
    rw [h3] at hz1 ⊢
    have f2 := hn m2.l
    generalize nest m2.l 0 = y at hz1 f2 ⊢
    by_cases h4 : ¬ (y.z = 0)
    · rw [must_keeps 41 _ _ h4] at hz1; exact absurd hz1 h4
    replace h4 := Decidable.not_not.1 h4
    rw [h4]
    have s3 := must_small 41 y.l 0
    obtain ⟨a1, a2⟩ := f1 h2
    obtain ⟨b1, b2⟩ := f2 h4
    rename_i k3
    refine ⟨⟨a1, b1, fun h => absurd k3 h, fun h => absurd k3 h⟩, ?_⟩
    simp only at a2 b2
    omega
  · split
    · rename_i k3 k4
      intro hz
      obtain ⟨a1, a2⟩ := hn l hz
      refine ⟨⟨a1, fun s hs => by simp at hs, fun _ h => absurd k4 h, fun _ => rfl⟩, ?_⟩
      simp only [List.map_nil, List.sum_nil] at a2 ⊢
      omega
    · intro hz
      refine ⟨⟨fun s hs => by simp at hs, fun s hs => by simp at hs, fun _ _ => rfl, fun _ => rfl⟩, ?_⟩
      have := must_small 41 l 0
      simpa using this
theorem parts_r {e : Reader Ex} {nest : Reader (List St)} (ke : Keeps e) (he : Fine e exR exN) (hk : Keeps nest) (hn : Fine nest (fun v => ∀ x ∈ v, stR x) (fun v => (v.map stN).sum)) (k : Nat) (k1 : 1 ≤ k) (k9 : k ≤ 9) {l : Bs} (h : (parts e nest k l 0).z = 0) : stR (parts e nest k l 0).v ∧ stN (parts e nest k l 0).v + (parts e nest k l 0).l.length ≤ l.length + 1 := by
  have hz : (restP nest k (times e (argsOf k) (optName k l 0).l (optName k l 0).z).l (times e (argsOf k) (optName k l 0).l (optName k l 0).z).z).z = 0 := h
  clear h
  unfold parts
  simp only
  have f1 := optName_fine k l
  generalize optName k l 0 = n at hz f1 ⊢
  by_cases h1 : ¬ (n.z = 0)
  · rw [times_keeps ke _ _ _ h1, rest_keeps hk k _ _ h1] at hz; exact absurd hz h1
  replace h1 := Decidable.not_not.1 h1
  rw [h1] at hz ⊢
  have f2 := times_fine he ke (argsOf k) n.l
  have tl := times_len3 e (argsOf k) n.l 0
  generalize times e (argsOf k) n.l 0 = a at hz f2 tl ⊢
  by_cases h2 : ¬ (a.z = 0)
  · rw [rest_keeps hk k _ _ h2] at hz; exact absurd hz h2
  replace h2 := Decidable.not_not.1 h2
  rw [h2] at hz ⊢
  have f3 := rest_r hk hn k a.l
  generalize restP nest k a.l 0 = r at hz f3 ⊢
  obtain ⟨a1, a2⟩ := f1 h1
  obtain ⟨b1, b2⟩ := f2 h2
  obtain ⟨⟨c1, c2, c3, c4⟩, c5⟩ := f3 hz
  refine ⟨by rw [stR]; exact ⟨by omega, by omega, by rw [tl]; rfl, exsR_of b1, stsR_of c1, stsR_of c2, fun x y => c3 (by omega) (by omega), fun x => c4 (by omega)⟩, ?_⟩
  rw [stN, exsN_sum, stsN_sum, stsN_sum]
  simp only at a2 b2 c5
  omega
theorem stmt_r (N : Nat) : ∀ k, Fine (stmt N k) stR stN
  | 0, l => fun h => absurd h (bad_ne 0 9 (by decide))
  | k + 1, l => by
    unfold stmt
    rw [if_pos rfl]
    intro h
    have hz : (parts (expr N k) (until_ (stmt N k) N) (kindOf (word (must 40 l 0).l (must 40 l 0).z).v) (word (must 40 l 0).l (must 40 l 0).z).l (if kindOf (word (must 40 l 0).l (must 40 l 0).z).v = 0 then bad (word (must 40 l 0).l (must 40 l 0).z).z 1 else (word (must 40 l 0).l (must 40 l 0).z).z)).z = 0 := h
    unfold stmtP
    simp only
    clear h
    have s1 := must_less 40 l
    generalize must 40 l 0 = m at hz s1 ⊢
    have kp := parts_keeps (expr_keeps N k) (until_keeps (one := stmt N k) N)
    by_cases h1 : ¬ (m.z = 0)
    · have hw := word_keeps m.l _ h1
      have hb : (if kindOf (word m.l m.z).v = 0 then bad (word m.l m.z).z 1 else (word m.l m.z).z) = m.z := by
        rw [hw]
        split
        · exact bad_of h1
        · rfl
      rw [hb, kp _ _ _ h1] at hz
      exact absurd hz h1
    replace h1 := Decidable.not_not.1 h1
    rw [h1] at hz ⊢
    have s2 := word_small m.l 0
    generalize word m.l 0 = w at hz s2 ⊢
    by_cases h2 : ¬ ((if kindOf w.v = 0 then bad w.z 1 else w.z) = 0)
    · rw [kp _ _ _ h2] at hz; exact absurd hz h2
    replace h2 := Decidable.not_not.1 h2
    have hk1 : 1 ≤ kindOf w.v ∧ kindOf w.v ≤ 9 := by
      by_cases h0 : kindOf w.v = 0
      · rw [if_pos h0] at h2; exact absurd h2 (bad_ok (by decide))
      · exact ⟨by omega, kindOf_le _⟩
    rw [h2] at hz ⊢
    obtain ⟨a1, a2⟩ := parts_r (expr_keeps N k) (fun l h => ⟨expr_r N k l h, (expr_fine N k l h).2⟩) (until_keeps N) (until_fine (stmt_r N k) N) _ hk1.1 hk1.2 hz
    have := s1 h1
    exact ⟨a1, by omega⟩
theorem fn_r (N : Nat) : Fine (fn N) (fun f => stsR f.b) (fun f => f.p.length + stsN f.b) := by
  intro l h
  have hz : (until_ (stmt N 11) N (until_ name N (must 40 (name (must 40 l 0).l (must 40 l 0).z).l (name (must 40 l 0).l (must 40 l 0).z).z).l (must 40 (name (must 40 l 0).l (must 40 l 0).z).l (name (must 40 l 0).l (must 40 l 0).z).z).z).l (until_ name N (must 40 (name (must 40 l 0).l (must 40 l 0).z).l (name (must 40 l 0).l (must 40 l 0).z).z).l (must 40 (name (must 40 l 0).l (must 40 l 0).z).l (name (must 40 l 0).l (must 40 l 0).z).z).z).z).z = 0 := h
  clear h
  unfold fn
  simp only
  have s1 := must_small 40 l 0
  generalize must 40 l 0 = m at hz s1 ⊢
  have K := until_keeps (one := stmt N 11) N
  have K2 := until_keeps (one := name) N
  by_cases h1 : ¬ (m.z = 0)
  · rw [name_keeps _ _ h1, must_keeps 40 _ _ h1, K2 _ _ h1, K _ _ h1] at hz; exact absurd hz h1
  replace h1 := Decidable.not_not.1 h1
  rw [h1] at hz ⊢
  have f1 := name_fine m.l
  generalize name m.l 0 = t at hz f1 ⊢
  by_cases h2 : ¬ (t.z = 0)
  · rw [must_keeps 40 _ _ h2, K2 _ _ h2, K _ _ h2] at hz; exact absurd hz h2
  replace h2 := Decidable.not_not.1 h2
  rw [h2] at hz ⊢
  have s2 := must_small 40 t.l 0
  generalize must 40 t.l 0 = b at hz s2 ⊢
  by_cases h3 : ¬ (b.z = 0)
  · rw [K2 _ _ h3, K _ _ h3] at hz; exact absurd hz h3
  replace h3 := Decidable.not_not.1 h3
  rw [h3] at hz ⊢
  have f2 := until_fine name_fine N b.l
  generalize until_ name N b.l 0 = p at hz f2 ⊢
  by_cases h4 : ¬ (p.z = 0)
  · rw [K _ _ h4] at hz; exact absurd hz h4
  replace h4 := Decidable.not_not.1 h4
  rw [h4] at hz ⊢
  have f3 := until_fine (stmt_r N 11) N p.l
  generalize until_ (stmt N 11) N p.l 0 = s at hz f3 ⊢
  obtain ⟨a1, a2⟩ := f1 h2
  obtain ⟨b1, b2⟩ := f2 h4
  obtain ⟨c1, c2⟩ := f3 hz
  refine ⟨stsR_of c1, ?_⟩
  simp only at a2 b2 c2 ⊢
  rw [stsN_sum]
  have : ∀ l : List Bs, (l.map fun _ => 1).sum = l.length := by
    intro l
    induction l with
    | nil => rfl
    | cons x l ih => simp only [List.map_cons, List.sum_cons, List.length_cons, ih]; omega
  have := this p.v
  omega
theorem fns_r (N : Nat) : ∀ n, Fine (fnsP N n) (fun v => ∀ f ∈ v, stsR f.b) fnsN
  | 0, l => fun _ => ⟨fun x hx => by simp [fnsP] at hx, by simp [fnsP, fnsN]⟩
  | n + 1, l => by
    have hs := skip_len l
    unfold fnsP
    rw [if_pos rfl]
    split
    · intro _; exact ⟨fun x hx => by simp at hx, by simp [fnsN]⟩
    · intro hz
      have hz1 : (fnsP N n (fn N (skip l) 0).l (fn N (skip l) 0).z).z = 0 := hz
      clear hz
      simp only
      have f1 := fn_r N (skip l)
      generalize fn N (skip l) 0 = r at hz1 f1 ⊢
      by_cases h1 : ¬ (r.z = 0)
      · have : (fnsP N n r.l r.z).z = r.z := by
          cases n with
          | zero => rfl
          | succ n => unfold fnsP; rw [if_neg h1]
        rw [this] at hz1; exact absurd hz1 h1
      replace h1 := Decidable.not_not.1 h1
      rw [h1] at hz1 ⊢
      obtain ⟨a1, a2⟩ := f1 h1
      obtain ⟨b1, b2⟩ := fns_r N n r.l hz1
      refine ⟨fun f hf => ?_, ?_⟩
      · rcases List.mem_cons.1 hf with rfl | hf
        · exact a1
        · exact b1 f hf
      · unfold fnsN at b2 ⊢
        simp only [List.map_cons, List.sum_cons] at a2 b2 ⊢
        omega
theorem pt_r {s : Bs} (h : (pt s).2 = 0) : ∀ f ∈ (pt s).1, stsR f.b := by
  unfold pt refParse at *
  by_cases hl : 1500 < s.length
  · rw [if_pos hl] at h; cases h
  · rw [if_neg hl] at h ⊢
    unfold finP at *
    by_cases hz : (fnsP 1502 1502 s 0).z = 0
    · rw [if_pos hz] at h ⊢
      exact (fns_r 1502 1502 s hz).1
    · rw [if_neg hz] at h; exact absurd h hz
end Go.Proofs.YtkmdamljhagogaaDoor
end
section
/- What is made of right functions: each instruction is one that may be (no program). -/
set_option maxHeartbeats 0
set_option maxRecDepth 100000
namespace Go.Proofs.YtkmdamljhagogaaDoor
/-- An instruction that may be, but for where it jumps. -/
structure InOk (nw nv nc : Nat) (np : Nat → Nat) (i : In) : Prop where
  op : 1 ≤ i.op ∧ i.op ≤ 19
  o1 : i.op = 1 → -1073741824 ≤ i.a ∧ i.a ≤ 1073741824
  o2 : i.op = 2 → 0 ≤ i.a ∧ i.a < nw
  o3 : i.op = 3 ∨ i.op = 4 → 0 ≤ i.a ∧ i.a < nv
  o5 : i.op = 5 → 1 ≤ i.a ∧ i.a ≤ 5
  o17 : i.op = 17 → 0 ≤ i.a ∧ i.a < nc ∧ i.b = np i.a.toNat
  b : i.op ≠ 17 → i.b = 0
  a : i.op ≠ 1 → i.op ≠ 2 → i.op ≠ 3 → i.op ≠ 4 → i.op ≠ 5 → i.op ≠ 15 → i.op ≠ 16 → i.op ≠ 17 → i.a = 0
theorem InOk.mono {nw nw2 nv nv2 nc : Nat} {np : Nat → Nat} {i : In} (h : InOk nw nv nc np i) (h1 : nw ≤ nw2) (h2 : nv ≤ nv2) : InOk nw2 nv2 nc np i :=
  ⟨h.op, h.o1, fun e => by have := h.o2 e; omega, fun e => by have := h.o3 e; omega, h.o5, h.o17, h.b, h.a⟩
/-- A call's function has a number, and takes so many. -/
def HasG (G : Bs → Int) (nc : Nat) (np : Nat → Nat) (t : Bs) (n : Nat) : Prop := 0 ≤ G t ∧ G t < nc ∧ np (G t).toNat = n
theorem wnum_lt (ws : List Bs) (t : Bs) : wnum ws t < (wput ws t).length := by
  unfold wnum wput
  by_cases h : t ∈ ws
  · rw [if_pos (by simpa using h)]; exact List.idxOf_lt_length_of_mem h
  · rw [if_neg (by simpa using h)]
    rw [List.idxOf_eq_length h]
    simp
theorem wput_ge (ws : List Bs) (t : Bs) : ws.length ≤ (wput ws t).length := by unfold wput; split <;> simp
mutual
theorem exK_grow (G E : Bs → Int) : ∀ (x : Ex) (ws : List Bs), ws.length ≤ (exK G E x ws).ws.length
  | .mk k n t a, ws => by
    rw [exK_mk]
    have := exsK_grow G E a ws
    unfold lastW
    split
    · exact Nat.le_trans this (wput_ge _ _)
    · exact this
theorem exsK_grow (G E : Bs → Int) : ∀ (l : List Ex) (ws : List Bs), ws.length ≤ (exsK G E l ws).ws.length
  | [], ws => by rw [exsK_nil]; exact Nat.le_refl _
  | x :: l, ws => by
    rw [exsK_cons]
    exact Nat.le_trans (exK_grow G E x ws) (exsK_grow G E l _)
end
theorem last_ok (G E : Bs → Int) (k n : Int) (t : Bs) (len : Nat) (ws : List Bs) (nv nc : Nat) (np : Nat → Nat) (h : exE1 k n t len) (hE : k = 3 → 0 ≤ E t ∧ E t < nv) (hG : k = 11 → HasG G nc np t len) : InOk (lastW k t ws).length nv nc np (lastI G E k n t len ws) := by
  rcases h with ⟨rfl, rfl, h1, h2⟩ | ⟨rfl, rfl, _⟩ | ⟨rfl, rfl⟩ | ⟨rfl, rfl, h1, h2⟩ | ⟨rfl, rfl⟩ | ⟨rfl, rfl⟩ | ⟨rfl, rfl⟩ | ⟨rfl, rfl⟩ | ⟨rfl, rfl⟩ | ⟨rfl, rfl⟩ | rfl
  · exact ⟨by simp [lastI], fun _ => ⟨h1, h2⟩, by simp [lastI], by simp [lastI], by simp [lastI], by simp [lastI], by simp [lastI], by simp [lastI]⟩
  · have := wnum_lt ws t
    exact ⟨by simp [lastI], by simp [lastI], fun _ => by simp [lastI, lastW]; omega, by simp [lastI], by simp [lastI], by simp [lastI], by simp [lastI], by simp [lastI]⟩
  · exact ⟨by simp [lastI], by simp [lastI], by simp [lastI], fun _ => hE rfl, by simp [lastI], by simp [lastI], by simp [lastI], by simp [lastI]⟩
  · exact ⟨by simp [lastI], by simp [lastI], by simp [lastI], by simp [lastI], fun _ => ⟨h1, h2⟩, by simp [lastI], by simp [lastI], by simp [lastI]⟩
  · exact ⟨by simp [lastI, plainOp], by simp [lastI, plainOp], by simp [lastI, plainOp], by simp [lastI, plainOp], by simp [lastI, plainOp], by simp [lastI, plainOp], by simp [lastI, plainOp], by simp [lastI, plainOp]⟩
  · exact ⟨by simp [lastI, plainOp], by simp [lastI, plainOp], by simp [lastI, plainOp], by simp [lastI, plainOp], by simp [lastI, plainOp], by simp [lastI, plainOp], by simp [lastI, plainOp], by simp [lastI, plainOp]⟩
  · exact ⟨by simp [lastI, plainOp], by simp [lastI, plainOp], by simp [lastI, plainOp], by simp [lastI, plainOp], by simp [lastI, plainOp], by simp [lastI, plainOp], by simp [lastI, plainOp], by simp [lastI, plainOp]⟩
  · exact ⟨by simp [lastI, plainOp], by simp [lastI, plainOp], by simp [lastI, plainOp], by simp [lastI, plainOp], by simp [lastI, plainOp], by simp [lastI, plainOp], by simp [lastI, plainOp], by simp [lastI, plainOp]⟩
  · exact ⟨by simp [lastI], by simp [lastI], by simp [lastI], by simp [lastI], by simp [lastI], by simp [lastI], by simp [lastI], by simp [lastI]⟩
  · exact ⟨by simp [lastI, plainOp], by simp [lastI, plainOp], by simp [lastI, plainOp], by simp [lastI, plainOp], by simp [lastI, plainOp], by simp [lastI, plainOp], by simp [lastI, plainOp], by simp [lastI, plainOp]⟩
  obtain ⟨g1, g2, g3⟩ := hG rfl
  exact ⟨by simp [lastI], by simp [lastI], by simp [lastI], by simp [lastI], by simp [lastI], fun _ => ⟨g1, g2, by show (len : Int) = _; rw [show (lastI G E 11 n t len ws).a = G t from rfl, g3]⟩, by simp [lastI], by simp [lastI]⟩
mutual
theorem exK_ok (G E : Bs → Int) (nv nc : Nat) (np : Nat → Nat) (nm : List Bs) (hE : ∀ t ∈ nm, 0 ≤ E t ∧ E t < nv) : ∀ (x : Ex) (ws : List Bs), exR x → exU (HasG G nc np) nm x → ∀ i ∈ (exK G E x ws).ins, InOk (exK G E x ws).ws.length nv nc np i
  | .mk k n t a, ws, hR, hU, i, hi => by
    rw [exR] at hR
    rw [exU] at hU
    rw [exK_mk] at hi ⊢
    have hg : (exsK G E a ws).ws.length ≤ (lastW k t (exsK G E a ws).ws).length := by
      unfold lastW
      split
      · exact wput_ge _ _
      · exact Nat.le_refl _
    rcases List.mem_append.1 hi with hi | hi
    · exact (exsK_ok G E nv nc np nm hE a ws hR.2 hU.2.2 i hi).mono hg (Nat.le_refl _)
    · rw [List.mem_singleton.1 hi]
      exact last_ok G E k n t a.length _ nv nc np hR.1 (fun e => hE t (hU.1 e)) hU.2.1
theorem exsK_ok (G E : Bs → Int) (nv nc : Nat) (np : Nat → Nat) (nm : List Bs) (hE : ∀ t ∈ nm, 0 ≤ E t ∧ E t < nv) : ∀ (l : List Ex) (ws : List Bs), exsR l → exsU (HasG G nc np) nm l → ∀ i ∈ (exsK G E l ws).ins, InOk (exsK G E l ws).ws.length nv nc np i
  | [], ws, _, _, i, hi => by rw [exsK_nil] at hi; cases hi
  | x :: l, ws, hR, hU, i, hi => by
    rw [exsR] at hR
    rw [exsU] at hU
    rw [exsK_cons] at hi ⊢
    rcases List.mem_append.1 hi with hi | hi
    · exact (exK_ok G E nv nc np nm hE x ws hR.1 hU.1 i hi).mono (exsK_grow G E l _) (Nat.le_refl _)
    · exact exsK_ok G E nv nc np nm hE l _ hR.2 hU.2 i hi
end
mutual
theorem stK_grow (G : Bs → Int) : ∀ (s : St) (E : Bs → Int) (v : Nat) (ws : List Bs) (o : Nat), ws.length ≤ (stK G s E v ws o).ws.length
  | .mk k t a x y, E, v, ws, o => by
    have ha := exsK_grow G E a ws
    by_cases h1 : k = 1
    · subst h1; rw [stK_let rfl]; exact ha
    by_cases h2 : k = 2
    · subst h2; rw [stK_set rfl]; exact ha
    by_cases h3 : k = 3
    · subst h3; rw [stK_if rfl rfl rfl]
      exact Nat.le_trans ha (Nat.le_trans (stsK_grow G x _ _ _ _) (stsK_grow G y _ _ _ _))
    by_cases h4 : k = 4
    · subst h4; rw [stK_while rfl rfl]; exact Nat.le_trans ha (stsK_grow G x _ _ _ _)
    · rw [stK_plain rfl h1 h2 h3 h4]; exact ha
theorem stsK_grow (G : Bs → Int) : ∀ (l : List St) (E : Bs → Int) (v : Nat) (ws : List Bs) (o : Nat), ws.length ≤ (stsK G l E v ws o).ws.length
  | [], E, v, ws, o => by rw [stsK_nil]; exact Nat.le_refl _
  | s :: l, E, v, ws, o => by
    rw [stsK_cons rfl rfl]
    exact Nat.le_trans (stK_grow G s _ _ _ _) (stsK_grow G l _ _ _ _)
end
mutual
theorem stK_v2 (G : Bs → Int) : ∀ (s : St) (E : Bs → Int) (v : Nat) (ws : List Bs) (o : Nat), v ≤ (stK G s E v ws o).v
  | .mk k t a x y, E, v, ws, o => by
    by_cases h1 : k = 1
    · subst h1; rw [stK_let rfl]; exact Nat.le_succ _
    by_cases h2 : k = 2
    · subst h2; rw [stK_set rfl]; exact Nat.le_refl _
    by_cases h3 : k = 3
    · subst h3
      rw [stK_if rfl rfl rfl]
      exact Nat.le_trans (stsK_v2 G x _ _ _ _) (stsK_v2 G y _ _ _ _)
    by_cases h4 : k = 4
    · subst h4
      rw [stK_while rfl rfl]
      exact stsK_v2 G x _ _ _ _
    · rw [stK_plain rfl h1 h2 h3 h4]; exact Nat.le_refl _
theorem stsK_v2 (G : Bs → Int) : ∀ (l : List St) (E : Bs → Int) (v : Nat) (ws : List Bs) (o : Nat), v ≤ (stsK G l E v ws o).v
  | [], E, v, ws, o => by rw [stsK_nil]; exact Nat.le_refl _
  | s :: l, E, v, ws, o => by
    rw [stsK_cons rfl rfl]
    exact Nat.le_trans (stK_v2 G s _ _ _ _) (stsK_v2 G l _ _ _ _)
end
/-- The names' numbers are less than v. -/
def EOk (E : Bs → Int) (nm : List Bs) (v : Nat) : Prop := ∀ t ∈ nm, 0 ≤ E t ∧ E t < v
theorem EOk.mono {E : Bs → Int} {nm : List Bs} {v w : Nat} (h : EOk E nm v) (hv : v ≤ w) : EOk E nm w := fun t ht => by have := h t ht; omega
theorem EOk.let_ {E : Bs → Int} {nm : List Bs} {v : Nat} (h : EOk E nm v) (t : Bs) : EOk (upd E t v) (nm ++ [t]) (v + 1) := fun u hu => by
  unfold upd
  by_cases e : u = t
  · rw [if_pos e]; omega
  · rw [if_neg e]
    rcases List.mem_append.1 hu with hu | hu
    · have := h u hu; omega
    · exact absurd (List.mem_singleton.1 hu) e
theorem put_ok {nw nv nc : Nat} {np : Nat → Nat} {a : Int} (h0 : 0 ≤ a) (h1 : a < nv) : InOk nw nv nc np ⟨4, a, 0⟩ := ⟨by simp, by simp, by simp, fun _ => ⟨h0, h1⟩, by simp, by simp, by simp, by simp⟩
theorem jmp_ok {nw nv nc : Nat} {np : Nat → Nat} {op a : Int} (h : op = 15 ∨ op = 16) : InOk nw nv nc np ⟨op, a, 0⟩ := by
  rcases h with rfl | rfl
  all_goals exact ⟨by simp, by simp, by simp, by simp, by simp, by simp, by simp, by simp⟩
theorem pl_ok {nw nv nc : Nat} {np : Nat → Nat} {k : Int} (h : k = 5 ∨ k = 6 ∨ k = 7 ∨ k = 8 ∨ k = 9) : InOk nw nv nc np ⟨stOp k, 0, 0⟩ := by
  rcases h with rfl | rfl | rfl | rfl | rfl
  all_goals exact ⟨by simp [stOp], by simp [stOp], by simp [stOp], by simp [stOp], by simp [stOp], by simp [stOp], by simp [stOp], by simp [stOp]⟩
mutual
theorem stK_ok (G : Bs → Int) (nc : Nat) (np : Nat → Nat) : ∀ (s : St) (E : Bs → Int) (v : Nat) (ws : List Bs) (o : Nat) (nm : List Bs), stR s → stU (HasG G nc np) s nm → EOk E nm v → (∀ i ∈ (stK G s E v ws o).ins, InOk (stK G s E v ws o).ws.length (stK G s E v ws o).v nc np i) ∧ (∀ k t a x y, s = .mk k t a x y → EOk (stK G s E v ws o).E (stN1 nm k t) (stK G s E v ws o).v)
  | .mk k t a x y, E, v, ws, o, nm, hR, hU, hE => by
    rw [stR] at hR
    rw [stU] at hU
    obtain ⟨r1, r2, r3, r4, r5, r6, r7, r8⟩ := hR
    obtain ⟨u1, u2, u3, u4, u5⟩ := hU
    have ha := exsK_ok G E v nc np nm hE a ws r4 u1
    by_cases h1 : k = 1
    · subst h1; rw [stK_let rfl]
      refine ⟨fun i hi => ?_, fun k' t' a' x' y' e => ?_⟩
      · rcases List.mem_append.1 hi with hi | hi
        · exact (ha i hi).mono (Nat.le_refl _) (Nat.le_succ _)
        · rw [List.mem_singleton.1 hi]; exact put_ok (by omega) (by simp only; omega)
      · cases e; unfold stN1; rw [if_pos rfl]; exact hE.let_ _
    have hnm : stN1 nm k t = nm := by unfold stN1; rw [if_neg h1]
    rw [hnm] at u4 u5
    by_cases h2 : k = 2
    · subst h2; rw [stK_set rfl]
      refine ⟨fun i hi => ?_, fun k' t' a' x' y' e => ?_⟩
      · rcases List.mem_append.1 hi with hi | hi
        · exact ha i hi
        · rw [List.mem_singleton.1 hi]; have := hE t (u3 rfl); exact put_ok this.1 this.2
      · cases e; rw [hnm]; exact hE
    by_cases h3 : k = 3
    · subst h3; rw [stK_if rfl rfl rfl]
      have hx := stsK_ok G nc np x E v (exsK G E a ws).ws (o + (exsK G E a ws).ins.length + 1) nm r5 u4 hE
      have vx := stsK_v2 G x E v (exsK G E a ws).ws (o + (exsK G E a ws).ins.length + 1)
      have gx := stsK_grow G x E v (exsK G E a ws).ws (o + (exsK G E a ws).ins.length + 1)
      generalize stsK G x E v (exsK G E a ws).ws (o + (exsK G E a ws).ins.length + 1) = X at *
      have hy := stsK_ok G nc np y E X.v X.ws (o + (exsK G E a ws).ins.length + X.ins.length + 2) nm r6 u5 (hE.mono vx)
      have vy := stsK_v2 G y E X.v X.ws (o + (exsK G E a ws).ins.length + X.ins.length + 2)
      have gy := stsK_grow G y E X.v X.ws (o + (exsK G E a ws).ins.length + X.ins.length + 2)
      generalize stsK G y E X.v X.ws (o + (exsK G E a ws).ins.length + X.ins.length + 2) = Y at *
      refine ⟨fun i hi => ?_, fun k' t' a' x' y' e => ?_⟩
      · rcases List.mem_append.1 hi with hi | hi
        · exact (ha i hi).mono (Nat.le_trans gx gy) (Nat.le_trans vx vy)
        · rcases List.mem_cons.1 hi with rfl | hi
          · exact jmp_ok (.inr rfl)
          · rcases List.mem_append.1 hi with hi | hi
            · exact (hx i hi).mono gy vy
            · rcases List.mem_cons.1 hi with rfl | hi
              · exact jmp_ok (.inl rfl)
              · exact hy i hi
      · cases e; rw [hnm]; exact hE.mono (Nat.le_trans vx vy)
    by_cases h4 : k = 4
    · subst h4; rw [stK_while rfl rfl]
      have hx := stsK_ok G nc np x E v (exsK G E a ws).ws (o + (exsK G E a ws).ins.length + 1) nm r5 u4 hE
      have vx := stsK_v2 G x E v (exsK G E a ws).ws (o + (exsK G E a ws).ins.length + 1)
      have gx := stsK_grow G x E v (exsK G E a ws).ws (o + (exsK G E a ws).ins.length + 1)
      generalize stsK G x E v (exsK G E a ws).ws (o + (exsK G E a ws).ins.length + 1) = X at *
      refine ⟨fun i hi => ?_, fun k' t' a' x' y' e => ?_⟩
      · rcases List.mem_append.1 hi with hi | hi
        · exact (ha i hi).mono gx vx
        · rcases List.mem_cons.1 hi with rfl | hi
          · exact jmp_ok (.inr rfl)
          · rcases List.mem_append.1 hi with hi | hi
            · exact hx i hi
            · rw [List.mem_singleton.1 hi]; exact jmp_ok (.inl rfl)
      · cases e; rw [hnm]; exact hE.mono vx
    rw [stK_plain rfl h1 h2 h3 h4]
    refine ⟨fun i hi => ?_, fun k' t' a' x' y' e => ?_⟩
    · rcases List.mem_append.1 hi with hi | hi
      · exact ha i hi
      · rw [List.mem_singleton.1 hi]; exact pl_ok (by omega)
    · cases e; rw [hnm]; exact hE
theorem stsK_ok (G : Bs → Int) (nc : Nat) (np : Nat → Nat) : ∀ (l : List St) (E : Bs → Int) (v : Nat) (ws : List Bs) (o : Nat) (nm : List Bs), stsR l → stsU (HasG G nc np) l nm → EOk E nm v → ∀ i ∈ (stsK G l E v ws o).ins, InOk (stsK G l E v ws o).ws.length (stsK G l E v ws o).v nc np i
  | [], E, v, ws, o, nm, _, _, _, i, hi => by rw [stsK_nil] at hi; cases hi
  | .mk k t a x y :: l, E, v, ws, o, nm, hR, hU, hE, i, hi => by
    rw [stsR] at hR
    rw [stsU] at hU
    obtain ⟨h1, h2⟩ := stK_ok G nc np (.mk k t a x y) E v ws o nm hR.1 hU.1 hE
    rw [stsK_cons rfl rfl] at hi ⊢
    rcases List.mem_append.1 hi with hi | hi
    · exact (h1 i hi).mono (stsK_grow G l _ _ _ _) (stsK_v2 G l _ _ _ _)
    · exact stsK_ok G nc np l _ _ _ _ _ hR.2 hU.2 (h2 k t a x y rfl) i hi
end
end Go.Proofs.YtkmdamljhagogaaDoor
end
section
/- What a right program gives. -/
set_option maxHeartbeats 0
set_option maxRecDepth 100000
namespace Go.Proofs.YtkmdamljhagogaaDoor
open Go Go.RowKit
theorem heads_4 : ∀ (l : List Fn) (G : Bs → Option Int) (F : Bs → Option Int), headsC l G = (0, F) → ∀ f ∈ l, f.p.length ≤ 4
  | [], _, _, _, f, h => by cases h
  | g :: l, G, F, hh, f, hf => by
    rw [headsC] at hh
    split at hh
    · cases hh
    · split at hh
      · cases hh
      · rcases List.mem_cons.1 hf with rfl | h
        · omega
        · exact heads_4 l _ F hh f h
/- Names that are used, weakened. -/
mutual
theorem exU_mono {H K : Bs → Nat → Prop} (hk : ∀ t n, H t n → K t n) {nm : List Bs} : ∀ {x : Ex}, exU H nm x → exU K nm x
  | .mk k n t a, h => by
    rw [exU] at h ⊢
    exact ⟨h.1, fun e => hk _ _ (h.2.1 e), exsU_mono hk h.2.2⟩
theorem exsU_mono {H K : Bs → Nat → Prop} (hk : ∀ t n, H t n → K t n) {nm : List Bs} : ∀ {l : List Ex}, exsU H nm l → exsU K nm l
  | [], _ => by rw [exsU]; trivial
  | x :: l, h => by
    rw [exsU] at h ⊢
    exact ⟨exU_mono hk h.1, exsU_mono hk h.2⟩
end
mutual
theorem stU_mono {H K : Bs → Nat → Prop} (hk : ∀ t n, H t n → K t n) : ∀ {s : St} {nm : List Bs}, stU H s nm → stU K s nm
  | .mk k t a x y, nm, h => by
    rw [stU] at h ⊢
    exact ⟨exsU_mono hk h.1, h.2.1, h.2.2.1, stsU_mono hk h.2.2.2.1, stsU_mono hk h.2.2.2.2⟩
theorem stsU_mono {H K : Bs → Nat → Prop} (hk : ∀ t n, H t n → K t n) : ∀ {l : List St} {nm : List Bs}, stsU H l nm → stsU K l nm
  | [], nm, _ => by rw [stsU]; trivial
  | .mk k t a x y :: l, nm, h => by
    rw [stsU] at h ⊢
    exact ⟨stU_mono hk h.1, stsU_mono hk h.2⟩
end
theorem heads_has : ∀ (l : List Fn) (G F : Bs → Option Int), headsC l G = (0, F) → ∀ t, (F t).isSome = true → (G t).isSome = true ∨ ∃ f ∈ l, f.t = t
  | [], G, F, h, t, ht => by
    rw [headsC] at h
    obtain rfl : G = F := by simpa using h
    exact .inl ht
  | g :: l, G, F, h, t, ht => by
    rw [headsC] at h
    split at h
    · cases h
    · split at h
      · cases h
      · rcases heads_has l _ F h t ht with e | ⟨f, hf, e⟩
        · by_cases hx : t = g.t
          · exact .inr ⟨g, List.mem_cons_self .., hx.symm⟩
          · simp only [if_neg hx] at e; exact .inl e
        · exact .inr ⟨f, List.mem_cons_of_mem _ hf, e⟩
theorem bodies_u (F : Bs → Option Int) : ∀ (l : List Fn) (W : WS), (bodiesC F l W).e = 0 → ∀ f ∈ l, stsU (HasF F) f.b f.p
  | [], _, _, f, hf => by cases hf
  | g :: l, W, h, f, hf => by
    rw [bodiesC] at h
    simp only [EW.or] at h
    split at h
    · rename_i h1
      rcases List.mem_cons.1 hf with rfl | hf
      · exact stsU_of F _ _ _ _ h1
      · exact bodies_u F l _ h f hf
    · rename_i h1; exact absurd h h1
/-- What a right program gives. -/
structure Right (l : List Fn) : Prop where
  n : l.length ≤ 5
  n0 : l.length ≠ 0
  p0 : firstP l = 0
  p : ∀ f ∈ l, f.p.length ≤ 4
  u : ∃ F, headsC l (fun _ => none) = (0, F) ∧ (bodiesC F l WS.empty).e = 0
theorem right_of {l : List Fn} (h : checkC l = 0) : Right l := by
  unfold checkC at h
  by_cases h1 : l.length = 0 ∨ 5 < l.length
  · rw [if_pos h1] at h; cases h
  rw [if_neg h1] at h
  by_cases h2 : (headsC l (fun _ => none)).1 ≠ 0
  · rw [if_pos h2] at h; exact absurd h h2
  rw [if_neg h2] at h
  by_cases h3 : firstP l ≠ 0
  · rw [if_pos h3] at h; cases h
  rw [if_neg h3] at h
  by_cases h4 : (bodiesC (headsC l (fun _ => none)).2 l WS.empty).e ≠ 0
  · rw [if_pos h4] at h; exact absurd h h4
  have e : headsC l (fun _ => none) = (0, (headsC l (fun _ => none)).2) := by
    have : (headsC l (fun _ => none)).1 = 0 := by simpa using h2
    rw [← this]
  exact ⟨by omega, by omega, by simpa using h3, heads_4 l _ _ e, _, e, by simpa using h4⟩
end Go.Proofs.YtkmdamljhagogaaDoor
end
section
/- The document's own answer: code of statements: what it is, without and with an offset; a map is copied. -/
set_option maxHeartbeats 0
set_option maxRecDepth 100000
namespace Go.Proofs.YtkmdamljhagogaaDoor
open Go Go.RowKit
/- No jump in an expression's code. -/
def NoJ (l : List In) : Prop := ∀ x ∈ l, x.op ≠ 15 ∧ x.op ≠ 16
theorem NoJ.app {a b : List In} (ha : NoJ a) (hb : NoJ b) : NoJ (a ++ b) := fun x hx => by
  rcases List.mem_append.1 hx with h | h
  · exact ha x h
  · exact hb x h
theorem plainOp_no (k : Int) : plainOp k ≠ 15 ∧ plainOp k ≠ 16 := by
  unfold plainOp
  repeat' split
  all_goals decide
theorem stOp_no (k : Int) : stOp k ≠ 15 ∧ stOp k ≠ 16 := by
  unfold stOp
  repeat' split
  all_goals decide
theorem lastI_no (G E : Bs → Int) (k n : Int) (t : Bs) (len : Nat) (ws : List Bs) : (lastI G E k n t len ws).op ≠ 15 ∧ (lastI G E k n t len ws).op ≠ 16 := by
  unfold lastI
  repeat' split
  all_goals first | exact plainOp_no k | (constructor <;> simp)
mutual
theorem exK_no (G E : Bs → Int) : ∀ (x : Ex) (ws : List Bs), NoJ (exK G E x ws).ins
  | .mk k n t a, ws => by
    rw [exK_mk]
    refine NoJ.app (exsK_no G E a ws) (fun x hx => ?_)
    rw [List.mem_singleton.1 hx]
    exact lastI_no ..
theorem exsK_no (G E : Bs → Int) : ∀ (l : List Ex) (ws : List Bs), NoJ (exsK G E l ws).ins
  | [], ws => by rw [exsK_nil]; intro x hx; cases hx
  | x :: l, ws => by rw [exsK_cons]; exact NoJ.app (exK_no G E x ws) (exsK_no G E l _)
end
theorem no4 (a b : Int) : (In.mk 4 a b).op ≠ 15 ∧ (In.mk 4 a b).op ≠ 16 := ⟨by simp, by simp⟩
theorem shI_no {k : Int} {x : In} (h : x.op ≠ 15 ∧ x.op ≠ 16) : shI k x = x := by
  unfold shI
  rw [if_neg (by rintro (e | e); exact h.1 e; exact h.2 e)]
theorem shiftI_no {k : Int} : ∀ {l : List In}, NoJ l → shiftI k l = l
  | [], _ => rfl
  | x :: l, h => by
    have := shiftI_no (k := k) (l := l) (fun y hy => h y (List.mem_cons_of_mem _ hy))
    unfold shiftI at this ⊢
    rw [List.map_cons, this, shI_no (h x List.mem_cons_self)]
theorem shiftI_app (k : Int) (a b : List In) : shiftI k (a ++ b) = shiftI k a ++ shiftI k b := by simp [shiftI]
theorem shiftI_cons (k : Int) (x : In) (b : List In) : shiftI k (x :: b) = shI k x :: shiftI k b := rfl
theorem shiftI_nil (k : Int) : shiftI k [] = [] := rfl
theorem shiftI_len (k : Int) (l : List In) : (shiftI k l).length = l.length := by simp [shiftI]
theorem shI_16 (k a b : Int) : shI k ⟨16, a, b⟩ = ⟨16, a + k, b⟩ := by simp [shI]
theorem shI_15 (k a b : Int) : shI k ⟨15, a, b⟩ = ⟨15, a + k, b⟩ := by simp [shI]
/-- The same, further on. -/
structure KSh (r s : KR) (k : Nat) : Prop where
  i : s.ins = shiftI (k : Nat) r.ins
  E : s.E = r.E
  v : s.v = r.v
  w : s.ws = r.ws
mutual
theorem stK_sh (G : Bs → Int) (k : Nat) : ∀ (s : St) (E : Bs → Int) (v : Nat) (ws : List Bs) (o : Nat), KSh (stK G s E v ws o) (stK G s E v ws (o + k)) k
  | .mk d t a x y, E, v, ws, o => by
    have hno := shiftI_no (k := (k : Int)) (exsK_no G E a ws)
    by_cases h1 : d = 1
    · subst h1; rw [stK_let rfl, stK_let rfl]; exact ⟨by rw [shiftI_app, hno, shiftI_cons, shI_no (no4 _ _)]; rfl, rfl, rfl, rfl⟩
    by_cases h2 : d = 2
    · subst h2; rw [stK_set rfl, stK_set rfl]; exact ⟨by rw [shiftI_app, hno, shiftI_cons, shI_no (no4 _ _)]; rfl, rfl, rfl, rfl⟩
    by_cases h3 : d = 3
    · subst h3
      have hx := stsK_sh G k x E v (exsK G E a ws).ws (o + (exsK G E a ws).ins.length + 1)
      have ex1 : o + k + (exsK G E a ws).ins.length + 1 = o + (exsK G E a ws).ins.length + 1 + k := by omega
      rw [stK_if rfl rfl rfl, stK_if (v := v) (o := o + k) rfl rfl rfl, ex1]
      generalize stsK G x E v (exsK G E a ws).ws (o + (exsK G E a ws).ins.length + 1 + k) = X2 at *
      generalize stsK G x E v (exsK G E a ws).ws (o + (exsK G E a ws).ins.length + 1) = X1 at *
      have hlx : X2.ins.length = X1.ins.length := by rw [hx.i, shiftI_len]
      rw [hx.v, hx.w, hlx]
      have hy := stsK_sh G k y E X1.v X1.ws (o + (exsK G E a ws).ins.length + X1.ins.length + 2)
      have ey1 : o + k + (exsK G E a ws).ins.length + X1.ins.length + 2 = o + (exsK G E a ws).ins.length + X1.ins.length + 2 + k := by omega
      rw [ey1]
      generalize stsK G y E X1.v X1.ws (o + (exsK G E a ws).ins.length + X1.ins.length + 2 + k) = Y2 at *
      generalize stsK G y E X1.v X1.ws (o + (exsK G E a ws).ins.length + X1.ins.length + 2) = Y1 at *
      have hly : Y2.ins.length = Y1.ins.length := by rw [hy.i, shiftI_len]
      refine ⟨?_, rfl, hy.v, hy.w⟩
      have e1 : ((o + (exsK G E a ws).ins.length + X1.ins.length + 2 + k : Nat) : Int) = ((o + (exsK G E a ws).ins.length + X1.ins.length + 2 : Nat) : Int) + (k : Nat) := by omega
      have e2 : ((o + (exsK G E a ws).ins.length + X1.ins.length + 2 + k + Y1.ins.length : Nat) : Int) = ((o + (exsK G E a ws).ins.length + X1.ins.length + 2 + Y1.ins.length : Nat) : Int) + (k : Nat) := by omega
      simp only [shiftI_app, shiftI_cons, hno, shI_16, shI_15, hly]
      rw [hx.i, hy.i, e1, e2]
    by_cases h4 : d = 4
    · subst h4
      have hx := stsK_sh G k x E v (exsK G E a ws).ws (o + (exsK G E a ws).ins.length + 1)
      have ex1 : o + k + (exsK G E a ws).ins.length + 1 = o + (exsK G E a ws).ins.length + 1 + k := by omega
      rw [stK_while rfl rfl, stK_while (v := v) (o := o + k) rfl rfl, ex1]
      generalize stsK G x E v (exsK G E a ws).ws (o + (exsK G E a ws).ins.length + 1 + k) = X2 at *
      generalize stsK G x E v (exsK G E a ws).ws (o + (exsK G E a ws).ins.length + 1) = X1 at *
      have hlx : X2.ins.length = X1.ins.length := by rw [hx.i, shiftI_len]
      rw [hlx]
      refine ⟨?_, rfl, hx.v, hx.w⟩
      simp only [shiftI_app, shiftI_cons, shiftI_nil, hno, shI_16, shI_15]
      rw [hx.i]
      congr 2
      congr 1; omega
    · rw [stK_plain rfl h1 h2 h3 h4, stK_plain rfl h1 h2 h3 h4]
      exact ⟨by rw [shiftI_app, hno, shiftI_cons, shI_no (stOp_no d)]; rfl, rfl, rfl, rfl⟩
theorem stsK_sh (G : Bs → Int) (k : Nat) : ∀ (l : List St) (E : Bs → Int) (v : Nat) (ws : List Bs) (o : Nat), KSh (stsK G l E v ws o) (stsK G l E v ws (o + k)) k
  | [], E, v, ws, o => ⟨rfl, rfl, rfl, rfl⟩
  | s :: l, E, v, ws, o => by
    have h1 := stK_sh G k s E v ws o
    have h2 := stsK_sh G k l (stK G s E v ws o).E (stK G s E v ws o).v (stK G s E v ws o).ws (o + (stK G s E v ws o).ins.length)
    have hl : o + k + (stK G s E v ws (o + k)).ins.length = o + (stK G s E v ws o).ins.length + k := by rw [h1.i, shiftI_len]; omega
    rw [stsK_cons rfl rfl, stsK_cons (o := o + k) rfl rfl, hl, h1.E, h1.v, h1.w]
    exact ⟨by rw [shiftI_app, h1.i, h2.i], h2.E, h2.v, h2.w⟩
end
theorem stK_from (G : Bs → Int) (s : St) (E : Bs → Int) (v : Nat) (ws : List Bs) (o : Nat) : KSh (stK G s E v ws 0) (stK G s E v ws o) o := by
  have := stK_sh G o s E v ws 0
  rwa [Nat.zero_add] at this
theorem stsK_from (G : Bs → Int) (l : List St) (E : Bs → Int) (v : Nat) (ws : List Bs) (o : Nat) : KSh (stsK G l E v ws 0) (stsK G l E v ws o) o := by
  have := stsK_sh G o l E v ws 0
  rwa [Nat.zero_add] at this
/-- Jumps stay inside. -/
def JIn (o n : Nat) (l : List In) : Prop := ∀ x ∈ l, (x.op = 15 ∨ x.op = 16) → 0 ≤ x.a ∧ x.a ≤ (o + n : Nat)
theorem JIn.no {o n : Nat} {l : List In} (h : NoJ l) : JIn o n l := fun x hx e => by
  have := h x hx
  omega
theorem JIn.app {o n : Nat} {a b : List In} (ha : JIn o n a) (hb : JIn o n b) : JIn o n (a ++ b) := fun x hx => by
  rcases List.mem_append.1 hx with h | h
  · exact ha x h
  · exact hb x h
theorem JIn.cons {o n : Nat} {x : In} {b : List In} (ha : (x.op = 15 ∨ x.op = 16) → 0 ≤ x.a ∧ x.a ≤ (o + n : Nat)) (hb : JIn o n b) : JIn o n (x :: b) := fun y hy => by
  rcases List.mem_cons.1 hy with h | h
  · rw [h]; exact ha
  · exact hb y h
theorem JIn.nil {o n : Nat} : JIn o n [] := fun x hx => by cases hx
theorem JIn.mono {o n o' n' : Nat} {l : List In} (h : JIn o n l) (hl : o + n ≤ o' + n') : JIn o' n' l := fun x hx e => by
  have := h x hx e
  omega
mutual
theorem stK_j (G : Bs → Int) : ∀ (s : St) (E : Bs → Int) (v : Nat) (ws : List Bs) (o : Nat), JIn o (stK G s E v ws o).ins.length (stK G s E v ws o).ins
  | .mk d t a x y, E, v, ws, o => by
    have hno := exsK_no G E a ws
    by_cases h1 : d = 1
    · subst h1; rw [stK_let rfl]; exact (JIn.no hno).app (JIn.no (fun x hx => by rw [List.mem_singleton.1 hx]; exact no4 _ _))
    by_cases h2 : d = 2
    · subst h2; rw [stK_set rfl]; exact (JIn.no hno).app (JIn.no (fun x hx => by rw [List.mem_singleton.1 hx]; exact no4 _ _))
    by_cases h3 : d = 3
    · subst h3
      rw [stK_if rfl rfl rfl]
      have hx := stsK_j G x E v (exsK G E a ws).ws (o + (exsK G E a ws).ins.length + 1)
      generalize stsK G x E v (exsK G E a ws).ws (o + (exsK G E a ws).ins.length + 1) = X1 at *
      have hy := stsK_j G y E X1.v X1.ws (o + (exsK G E a ws).ins.length + X1.ins.length + 2)
      generalize stsK G y E X1.v X1.ws (o + (exsK G E a ws).ins.length + X1.ins.length + 2) = Y1 at *
      refine (JIn.no hno).app (JIn.cons (fun _ => ?_) ((hx.mono ?_).app (JIn.cons (fun _ => ?_) (hy.mono ?_)))) <;> simp only [List.length_append, List.length_cons] <;> omega
    by_cases h4 : d = 4
    · subst h4
      rw [stK_while rfl rfl]
      have hx := stsK_j G x E v (exsK G E a ws).ws (o + (exsK G E a ws).ins.length + 1)
      generalize stsK G x E v (exsK G E a ws).ws (o + (exsK G E a ws).ins.length + 1) = X1 at *
      refine (JIn.no hno).app (JIn.cons (fun _ => ?_) ((hx.mono ?_).app (JIn.cons (fun _ => ?_) JIn.nil))) <;> simp only [List.length_append, List.length_cons, List.length_nil] <;> omega
    · rw [stK_plain rfl h1 h2 h3 h4]
      exact (JIn.no hno).app (JIn.no (fun x hx => by rw [List.mem_singleton.1 hx]; exact stOp_no d))
theorem stsK_j (G : Bs → Int) : ∀ (l : List St) (E : Bs → Int) (v : Nat) (ws : List Bs) (o : Nat), JIn o (stsK G l E v ws o).ins.length (stsK G l E v ws o).ins
  | [], E, v, ws, o => by rw [stsK_nil]; exact JIn.nil
  | s :: l, E, v, ws, o => by
    have h1 := stK_j G s E v ws o
    have h2 := stsK_j G l (stK G s E v ws o).E (stK G s E v ws o).v (stK G s E v ws o).ws (o + (stK G s E v ws o).ins.length)
    rw [stsK_cons rfl rfl]
    refine (h1.mono ?_).app (h2.mono ?_) <;> simp only [List.length_append] <;> omega
end
theorem JIn.ok {l : List In} {o n : Nat} (h : JIn o n l) (hn : o + n ≤ 1000000) : ∀ x ∈ l, JOk x := fun x hx e => by
  have := h x hx e
  omega
theorem stsK_snoc (G : Bs → Int) (s : St) : ∀ (l : List St) (E : Bs → Int) (v : Nat) (ws : List Bs) (o : Nat) (r q : KR), stsK G l E v ws o = r → stK G s r.E r.v r.ws (o + r.ins.length) = q → stsK G (l ++ [s]) E v ws o = ⟨r.ins ++ q.ins, q.E, q.v, q.ws⟩
  | [], E, v, ws, o, r, q, h, h2 => by
    rw [stsK_nil] at h
    subst h
    simp only [List.length_nil, Nat.add_zero] at h2
    rw [List.nil_append, stsK_cons h2 rfl, stsK_nil]
    simp
  | u :: l, E, v, ws, o, r, q, h, h2 => by
    rw [stsK_cons rfl rfl] at h
    subst h
    have := stsK_snoc G s l (stK G u E v ws o).E (stK G u E v ws o).v (stK G u E v ws o).ws (o + (stK G u E v ws o).ins.length) _ q rfl (by
      rw [← h2]
      congr 1
      simp only [List.length_append]
      omega)
    rw [List.cons_append, stsK_cons rfl this]
    simp
end Go.Proofs.YtkmdamljhagogaaDoor
end
section
/- What is made of right functions is a program that may be (no program). -/
set_option maxHeartbeats 0
set_option maxRecDepth 100000
namespace Go.Proofs.YtkmdamljhagogaaDoor
/-- A set of texts counts at least what is in it. -/
def WS.Ok (W : WS) : Prop := ∀ L : List Bs, L.Nodup → (∀ x ∈ L, W.f x = true) → L.length ≤ W.n
theorem WS.ok_empty : WS.empty.Ok := fun L _ h => by
  cases L with
  | nil => exact Nat.le_refl _
  | cons x L => have := h x (List.mem_cons_self ..); simp [WS.empty] at this
theorem WS.ok_add {W : WS} (h : W.Ok) (k : Bs) : (W.add k).Ok := by
  intro L hn hL
  unfold WS.add at hL ⊢
  simp only at hL ⊢
  by_cases hk : W.f k = true
  · rw [if_pos hk]
    refine h L hn fun x hx => ?_
    have := hL x hx
    simp only [Bool.or_eq_true, decide_eq_true_eq] at this
    rcases this with rfl | e
    · exact hk
    · exact e
  · rw [if_neg hk]
    by_cases hm : k ∈ L
    · have h1 := h (L.erase k) (hn.erase k) fun x hx => by
        have hx2 := hn.mem_erase_iff.1 hx
        have := hL x hx2.2
        simp only [Bool.or_eq_true, decide_eq_true_eq] at this
        exact this.resolve_left hx2.1
      have h2 := List.length_erase_of_mem hm
      omega
    · have h1 := h L hn fun x hx => by
        have := hL x hx
        simp only [Bool.or_eq_true, decide_eq_true_eq] at this
        exact this.resolve_left (fun e => hm (e ▸ hx))
      omega
theorem WS.add_mem (W : WS) (k x : Bs) (h : W.f x = true) : (W.add k).f x = true := by unfold WS.add; simp [h]
theorem WS.add_self (W : WS) (k : Bs) : (W.add k).f k = true := by unfold WS.add; simp
/-- What is kept of the texts: the list, and the set. -/
structure WL (W : WS) (ws : List Bs) : Prop where
  ok : W.Ok
  nd : ws.Nodup
  sub : ∀ x ∈ ws, W.f x = true
  word : ∀ x ∈ ws, isWord x = true
theorem WL.put {W : WS} {ws : List Bs} (h : WL W ws) (t : Bs) (ht : isWord t = true) (hf : W.f t = true) : WL W (wput ws t) := by
  unfold wput
  by_cases hc : ws.contains t = true
  · rw [if_pos hc]; exact h
  · rw [if_neg hc]
    have hn : t ∉ ws := by simpa using hc
    refine ⟨h.ok, ?_, fun x hx => ?_, fun x hx => ?_⟩
    · rw [List.nodup_append]
      exact ⟨h.nd, by simp, fun a ha b hb e => by rw [List.mem_singleton.1 hb] at e; exact hn (e ▸ ha)⟩
    · rcases List.mem_append.1 hx with hx | hx
      · exact h.sub x hx
      · rw [List.mem_singleton.1 hx]; exact hf
    · rcases List.mem_append.1 hx with hx | hx
      · exact h.word x hx
      · rw [List.mem_singleton.1 hx]; exact ht
theorem WL.add {W : WS} {ws : List Bs} (h : WL W ws) (t : Bs) : WL (W.add t) ws := ⟨WS.ok_add h.ok t, h.nd, fun x hx => WS.add_mem _ _ _ (h.sub x hx), h.word⟩
mutual
theorem exC_mono (F : Bs → Option Int) (nm : List Bs) : ∀ (x : Ex) (W : WS) (t : Bs), W.f t = true → (exC F nm x W).W.f t = true
  | .mk k n u a, W, t, h => by
    rw [exC]
    have h1 : (exW k u W).f t = true := by unfold exW; split; exact WS.add_mem _ _ _ h; exact h
    simp only [EW.or]
    split
    · exact exsC_mono F nm a _ t h1
    · exact h1
theorem exsC_mono (F : Bs → Option Int) (nm : List Bs) : ∀ (l : List Ex) (W : WS) (t : Bs), W.f t = true → (exsC F nm l W).W.f t = true
  | [], W, t, h => by rw [exsC]; exact h
  | x :: l, W, t, h => by
    rw [exsC]
    have h1 := exC_mono F nm x W t h
    simp only [EW.or]
    split
    · exact exsC_mono F nm l _ t h1
    · exact h1
end
mutual
theorem exC_wl (G E : Bs → Int) (F : Bs → Option Int) (nm : List Bs) : ∀ (x : Ex) (W : WS) (ws : List Bs), exR x → (exC F nm x W).e = 0 → WL W ws → WL (exC F nm x W).W (exK G E x ws).ws
  | .mk k n u a, W, ws, hR, he, h => by
    rw [exR] at hR
    rw [exC] at he ⊢
    simp only [EW.or] at he ⊢
    split at he
    · rename_i h0
      rw [if_pos h0]
      have h1 : WL (exW k u W) ws := by unfold exW; split; exact h.add u; exact h
      have h2 := exsC_wl G E F nm a (exW k u W) ws hR.2 he h1
      rw [exK_mk]
      unfold lastW
      split
      · rename_i hk
        subst hk
        have hw : isWord u = true := by
          rcases hR.1 with ⟨e, _⟩ | ⟨_, _, e⟩ | ⟨e, _⟩ | ⟨e, _⟩ | ⟨e, _⟩ | ⟨e, _⟩ | ⟨e, _⟩ | ⟨e, _⟩ | ⟨e, _⟩ | ⟨e, _⟩ | e
          all_goals first | exact e | exact absurd e (by decide)
        refine h2.put u hw (exsC_mono F nm a _ u ?_)
        unfold exW
        rw [if_pos rfl]
        exact WS.add_self _ _
      · exact h2
    · rename_i h0; exact absurd he h0
theorem exsC_wl (G E : Bs → Int) (F : Bs → Option Int) (nm : List Bs) : ∀ (l : List Ex) (W : WS) (ws : List Bs), exsR l → (exsC F nm l W).e = 0 → WL W ws → WL (exsC F nm l W).W (exsK G E l ws).ws
  | [], W, ws, _, _, h => by rw [exsC, exsK_nil]; exact h
  | x :: l, W, ws, hR, he, h => by
    rw [exsR] at hR
    rw [exsC] at he ⊢
    simp only [EW.or] at he ⊢
    split at he
    · rename_i h0
      rw [if_pos h0, exsK_cons]
      exact exsC_wl G E F nm l _ _ hR.2 he (exC_wl G E F nm x W ws hR.1 h0 h)
    · rename_i h0; exact absurd he h0
end
/- Texts, and how many variables: what Check counts is what is made. -/
mutual
theorem stC_wl (G : Bs → Int) (F : Bs → Option Int) : ∀ (s : St) (E : Bs → Int) (v : Nat) (ws : List Bs) (o : Nat) (nm : List Bs) (W : WS), stR s → (stC F s nm (v : Nat) W).e = 0 → v ≤ 8 → WL W ws → WL (stC F s nm (v : Nat) W).W (stK G s E v ws o).ws ∧ (stC F s nm (v : Nat) W).v = ((stK G s E v ws o).v : Nat) ∧ (stK G s E v ws o).v ≤ 8
  | .mk k t a x y, E, v, ws, o, nm, W, hR, he, hv, h => by
    rw [stR] at hR
    obtain ⟨r1, r2, r3, r4, r5, r6, r7, r8⟩ := hR
    rw [stC] at he ⊢
    simp only [CR.or] at he ⊢
    split at he
    · rename_i h1
      simp only [h1, if_true] at he ⊢
      have ha := exsC_wl G E F nm a W ws r4 h1 h
      generalize (exsC F nm a W).W = WA at *
      split at he
      · rename_i h2
        simp only [h2, if_true] at he ⊢
        by_cases k1 : k = 1
        · subst k1
          have hx := r7 (by decide) (by decide)
          have hy := r8 (by decide)
          subst hx hy
          have hv8 : v < 8 := by
            unfold stE at h2
            rw [if_pos rfl] at h2
            by_cases hc : nm.contains t = true
            · rw [if_pos hc] at h2; cases h2
            · rw [if_neg hc] at h2
              by_cases h8 : (8 : Int) ≤ (v : Int)
              · rw [if_pos h8] at h2; cases h2
              · omega
          rw [stK_let rfl]
          simp only [stsC, if_true]
          refine ⟨ha, ?_, show v + 1 ≤ 8 by omega⟩
          unfold stV1
          rw [if_pos rfl]
          simp
        have hN : stN1 nm k t = nm := by unfold stN1; rw [if_neg k1]
        have hV : stV1 (v : Nat) k = (v : Nat) := by unfold stV1; rw [if_neg k1]
        rw [hN, hV] at he ⊢
        split at he
        · rename_i h3
          simp only [h3, if_true] at he ⊢
          split at he
          · rename_i h4
            simp only [h4, if_true]
            by_cases k3 : k = 3
            · subst k3
              rw [stK_if rfl rfl rfl]
              obtain ⟨x1, x2, x3⟩ := stsC_wl G F x E v (exsK G E a ws).ws (o + (exsK G E a ws).ins.length + 1) nm WA r5 h3 hv ha
              generalize stsK G x E v (exsK G E a ws).ws (o + (exsK G E a ws).ins.length + 1) = X at *
              rw [x2] at h4 ⊢
              exact stsC_wl G F y E X.v X.ws (o + (exsK G E a ws).ins.length + X.ins.length + 2) nm _ r6 h4 x3 x1
            have hy := r8 k3
            subst hy
            simp only [stsC]
            by_cases k4 : k = 4
            · subst k4
              rw [stK_while rfl rfl]
              exact stsC_wl G F x E v (exsK G E a ws).ws (o + (exsK G E a ws).ins.length + 1) nm WA r5 h3 hv ha
            have hx := r7 k3 k4
            subst hx
            simp only [stsC]
            by_cases k2 : k = 2
            · subst k2
              rw [stK_set rfl]
              exact ⟨ha, rfl, hv⟩
            rw [stK_plain rfl k1 k2 k3 k4]
            exact ⟨ha, rfl, hv⟩
          · rename_i h4; exact absurd he h4
        · rename_i h3; exact absurd he h3
      · rename_i h2; exact absurd he h2
    · rename_i h1; exact absurd he h1
theorem stsC_wl (G : Bs → Int) (F : Bs → Option Int) : ∀ (l : List St) (E : Bs → Int) (v : Nat) (ws : List Bs) (o : Nat) (nm : List Bs) (W : WS), stsR l → (stsC F l nm (v : Nat) W).e = 0 → v ≤ 8 → WL W ws → WL (stsC F l nm (v : Nat) W).W (stsK G l E v ws o).ws ∧ (stsC F l nm (v : Nat) W).v = ((stsK G l E v ws o).v : Nat) ∧ (stsK G l E v ws o).v ≤ 8
  | [], E, v, ws, o, nm, W, _, _, hv, h => by rw [stsC, stsK_nil]; exact ⟨h, rfl, hv⟩
  | s :: l, E, v, ws, o, nm, W, hR, he, hv, h => by
    rw [stsR] at hR
    rw [stsC] at he ⊢
    simp only [CR.or] at he ⊢
    split at he
    · rename_i h1
      obtain ⟨a1, a2, a3⟩ := stC_wl G F s E v ws o nm W hR.1 h1 hv h
      simp only [h1, if_true] at he ⊢
      rw [a2] at he ⊢
      rw [stsK_cons rfl rfl]
      exact stsC_wl G F l _ _ _ _ _ _ hR.2 he a3 a1
    · rename_i h1; exact absurd he h1
end
theorem parE_ok : ∀ (p : List Bs) (i : Nat) (E : Bs → Int) (nm : List Bs), EOk E nm i → EOk (parE p i E) (nm ++ p) (i + p.length)
  | [], i, E, nm, h => by rw [parE]; simpa using h
  | t :: p, i, E, nm, h => by
    rw [parE]
    have := parE_ok p (i + 1) (upd E t i) (nm ++ [t]) (h.let_ t)
    rw [List.append_assoc] at this
    have e : i + 1 + p.length = i + (t :: p).length := by simp; omega
    rw [e] at this
    exact this
theorem heads_idx : ∀ (l : List Fn) (F0 F : Bs → Option Int) (i0 : Nat) (G0 : Bs → Int), headsC l F0 = (0, F) → ∀ t n, F t = some n → (∃ j f, l[j]? = some f ∧ f.t = t ∧ idxG l i0 G0 t = (i0 + j : Nat) ∧ n = (f.p.length : Nat)) ∨ (F0 t = some n ∧ idxG l i0 G0 t = G0 t)
  | [], F0, F, i0, G0, h, t, n, ht => by
    rw [headsC] at h
    obtain rfl : F0 = F := by simpa using h
    exact .inr ⟨ht, rfl⟩
  | g :: l, F0, F, i0, G0, h, t, n, ht => by
    rw [headsC] at h
    split at h
    · cases h
    · split at h
      · cases h
      · rw [idxG]
        rcases heads_idx l _ F (i0 + 1) (upd G0 g.t i0) h t n ht with ⟨j, f, h1, h2, h3, h4⟩ | ⟨h1, h2⟩
        · exact .inl ⟨j + 1, f, by simpa using h1, h2, by rw [h3]; congr 1; omega, h4⟩
        · by_cases e : t = g.t
          · rw [if_pos e] at h1
            refine .inl ⟨0, g, rfl, e.symm, ?_, (Option.some.inj h1).symm⟩
            rw [h2]
            unfold upd
            rw [if_pos e]
            simp
          · rw [if_neg e] at h1
            refine .inr ⟨h1, ?_⟩
            rw [h2]
            unfold upd
            rw [if_neg e]
def npOf (l : List Fn) (i : Nat) : Nat := (l[i]?.map (fun f => f.p.length)).getD 0
theorem hasG_of {l : List Fn} {F : Bs → Option Int} (h : headsC l (fun _ => none) = (0, F)) (t : Bs) (n : Nat) (ht : HasF F t n) : HasG (idxG l 0 (fun _ => 0)) l.length (npOf l) t n := by
  rcases heads_idx l _ F 0 (fun _ => 0) h t n ht with ⟨j, f, h1, h2, h3, h4⟩ | ⟨h1, _⟩
  · have hj := (List.getElem?_eq_some_iff.1 h1).1
    unfold HasG
    rw [h3]
    refine ⟨by omega, by omega, ?_⟩
    unfold npOf
    simp only [Nat.zero_add, Int.toNat_natCast, h1, Option.map_some, Option.getD_some]
    omega
  · cases h1
/-- A code that may be, of a function. -/
structure CGood (nw nc : Nat) (npf : Nat → Nat) (f : Fn) (c : Cd) : Prop where
  np : c.np = f.p.length
  n4 : c.np ≤ 4
  nv : c.np ≤ c.nv ∧ c.nv ≤ 8
  len : 2 ≤ c.ins.length ∧ c.ins.length ≤ 200
  last : c.ins[c.ins.length - 1]? = some ⟨18, 0, 0⟩
  ok : ∀ i ∈ c.ins, InOk nw c.nv nc npf i
  j : ∀ i ∈ c.ins, i.op = 15 ∨ i.op = 16 → 0 ≤ i.a ∧ i.a < c.ins.length
  h : (heightsC c.ins).2 = 0
theorem CGood.mono {nw nw2 nc : Nat} {np : Nat → Nat} {f : Fn} {c : Cd} (h : CGood nw nc np f c) (hn : nw ≤ nw2) : CGood nw2 nc np f c :=
  ⟨h.np, h.n4, h.nv, h.len, h.last, fun i hi => (h.ok i hi).mono hn (Nat.le_refl _), h.j, h.h⟩
theorem fn_good (G : Bs → Int) (nc : Nat) (np : Nat → Nat) (f : Fn) (ws : List Bs) (hR : stsR f.b) (h4 : f.p.length ≤ 4) (hU : stsU (HasG G nc np) f.b f.p) (h8 : (fnS G f ws).v ≤ 8) (hm : fnMuch G f ws = false) : CGood (fnS G f ws).ws.length nc np f ⟨f.p.length, (fnS G f ws).v, fnI G f ws⟩ := by
  unfold fnMuch at hm
  simp only [Bool.or_eq_false_iff, decide_eq_false_iff_not] at hm
  have hl : (fnI G f ws).length = (fnS G f ws).ins.length + 2 := by unfold fnI; simp
  have hE : EOk (parE f.p 0 (fun _ => 0)) f.p f.p.length := by
    have := parE_ok f.p 0 (fun _ => 0) [] (fun t ht => by cases ht)
    simpa using this
  have hok := stsK_ok G nc np f.b (parE f.p 0 (fun _ => 0)) f.p.length ws 0 f.p hR hU hE
  have hv := stsK_v2 G f.b (parE f.p 0 (fun _ => 0)) f.p.length ws 0
  have hj := stsK_j G f.b (parE f.p 0 (fun _ => 0)) f.p.length ws 0
  refine ⟨rfl, h4, ⟨hv, h8⟩, ⟨by simp only; omega, by simp only; omega⟩, ?_, fun i hi => ?_, fun i hi e => ?_, fn_heights G f ws hR (by omega)⟩
  · simp only
    rw [hl]
    unfold fnI
    rw [List.getElem?_append_right (by omega)]
    simp
  · have hi' : i ∈ (fnS G f ws).ins ++ [⟨1, 0, 0⟩, ⟨18, 0, 0⟩] := hi
    rcases List.mem_append.1 hi' with hi | hi
    · exact hok i hi
    · simp only [List.mem_cons, List.not_mem_nil, or_false] at hi
      rcases hi with rfl | rfl
      · exact ⟨by simp, by simp, by simp, by simp, by simp, by simp, by simp, by simp⟩
      · exact ⟨by simp, by simp, by simp, by simp, by simp, by simp, by simp, by simp⟩
  · have hi' : i ∈ (fnS G f ws).ins ++ [⟨1, 0, 0⟩, ⟨18, 0, 0⟩] := hi
    simp only
    rw [hl]
    rcases List.mem_append.1 hi' with hi | hi
    · have := hj i hi e
      have h0 : (fnS G f ws).ins.length = (stsK G f.b (parE f.p 0 (fun _ => 0)) f.p.length ws 0).ins.length := rfl
      omega
    · simp only [List.mem_cons, List.not_mem_nil, or_false] at hi
      rcases hi with rfl | rfl
      · simp at e
      · simp at e
theorem make_good (G : Bs → Int) (F : Bs → Option Int) (nc : Nat) (np : Nat → Nat) : ∀ (l : List Fn) (P : Pg) (W : WS), (∀ f ∈ l, stsR f.b ∧ f.p.length ≤ 4 ∧ stsU (HasG G nc np) f.b f.p) → (bodiesC F l W).e = 0 → WL W P.ws → ∀ Q, makeK G l P = (Q, 0) → ∃ cs : List Cd, Q.cs = P.cs ++ cs ∧ cs.length = l.length ∧ (∀ (j : Nat) (f : Fn) (c : Cd), l[j]? = some f → cs[j]? = some c → CGood Q.ws.length nc np f c) ∧ WL (bodiesC F l W).W Q.ws ∧ P.ws.length ≤ Q.ws.length
  | [], P, W, _, _, h, Q, hQ => by
    rw [makeK] at hQ
    obtain rfl : P = Q := by simpa using hQ
    exact ⟨[], by simp, rfl, fun j f c h1 => by simp at h1, by rw [bodiesC]; exact h, Nat.le_refl _⟩
  | f :: l, P, W, hf, he, h, Q, hQ => by
    rw [makeK] at hQ
    by_cases hm : fnMuch G f P.ws = true
    · rw [if_pos hm] at hQ
      simp at hQ
    rw [if_neg hm] at hQ
    obtain ⟨f1, f2, f3⟩ := hf f (List.mem_cons_self ..)
    rw [bodiesC] at he ⊢
    simp only [EW.or] at he ⊢
    split at he
    · rename_i h1
      simp only [h1, if_true] at he ⊢
      obtain ⟨w1, w2, w3⟩ := stsC_wl G F f.b (parE f.p 0 (fun _ => 0)) f.p.length P.ws 0 f.p W f1 h1 (by omega) h
      obtain ⟨cs, c1, c2, c3, c4, c5⟩ := make_good G F nc np l ⟨P.cs ++ [⟨f.p.length, (fnS G f P.ws).v, fnI G f P.ws⟩], (fnS G f P.ws).ws⟩ _ (fun g hg => hf g (List.mem_cons_of_mem _ hg)) he w1 Q hQ
      simp only at c1 c5
      have hg := (fn_good G nc np f P.ws f1 f2 f3 w3 (by simpa using hm)).mono c5
      refine ⟨⟨f.p.length, (fnS G f P.ws).v, fnI G f P.ws⟩ :: cs, by rw [c1]; simp, by simp [c2], fun j f' c' h1 h2 => ?_, c4, Nat.le_trans (stsK_grow G f.b _ _ _ _) c5⟩
      cases j with
      | zero =>
        simp at h1 h2
        subst h1 h2
        exact hg
      | succ j => exact c3 j f' c' (by simpa using h1) (by simpa using h2)
    · rename_i h1; exact absurd he h1
/-- A program that may be, of functions. -/
structure GoodP (l : List Fn) (P : Pg) : Prop where
  n : P.cs.length = l.length
  c : ∀ (j : Nat) (f : Fn) (c : Cd), l[j]? = some f → P.cs[j]? = some c → CGood P.ws.length l.length (npOf l) f c
  w : P.ws.length ≤ 16
  word : ∀ x ∈ P.ws, isWord x = true
theorem good_of {l : List Fn} (h : checkC l = 0) (hR : ∀ f ∈ l, stsR f.b) (P : Pg) (hP : progK l = (P, 0)) : GoodP l P := by
  have hr := right_of h
  obtain ⟨F, h1, h2⟩ := hr.u
  have hn : (bodiesC F l WS.empty).W.n ≤ 16 := by
    unfold checkC at h
    rw [if_neg (by have := hr.n; have := hr.n0; omega), h1] at h
    simp only [ne_eq, not_true_eq_false, if_false] at h
    rw [if_neg (by simp [hr.p0]), if_neg (by simp [h2])] at h
    by_cases h16 : 16 < (bodiesC F l WS.empty).W.n
    · rw [if_pos h16] at h; cases h
    · omega
  unfold progK at hP
  obtain ⟨cs, c1, c2, c3, c4, c5⟩ := make_good (idxG l 0 (fun _ => 0)) F l.length (npOf l) l ⟨[], []⟩ WS.empty (fun f hf => ⟨hR f hf, hr.p f hf, stsU_mono (fun t n e => hasG_of h1 t n e) (bodies_u F l _ h2 f hf)⟩) h2 ⟨WS.ok_empty, by simp, fun x hx => (by cases hx), fun x hx => (by cases hx)⟩ P hP
  simp only [List.nil_append] at c1
  refine ⟨by rw [c1, c2], fun j f c e1 e2 => c3 j f c e1 (by rw [← c1]; exact e2), ?_, c4.word⟩
  exact Nat.le_trans (c4.ok P.ws c4.nd c4.sub) hn
mutual
theorem stKd_r : ∀ {s : St}, stR s → stKd s
  | .mk k t a x y, h => by
    rw [stR] at h
    rw [stKd]
    exact ⟨h.1, h.2.1, stsKd_r h.2.2.2.2.1, stsKd_r h.2.2.2.2.2.1⟩
theorem stsKd_r : ∀ {l : List St}, stsR l → stsKd l
  | [], _ => by rw [stsKd]; trivial
  | s :: l, h => by
    rw [stsR] at h
    rw [stsKd]
    exact ⟨stKd_r h.1, stsKd_r h.2⟩
end
theorem fnM_r {l : List Fn} (h : Right l) (hs : ∀ f ∈ l, FnSh f) (hk : ∀ f ∈ l, stsR f.b) : ∀ f ∈ l, FnM f := fun f hf => by
  obtain ⟨F, h1, h2⟩ := h.u
  exact ⟨hs f hf, stsKd_r (hk f hf), stsU_mono (fun _ _ _ => trivial) (bodies_u F l _ h2 f hf), h.p f hf⟩
end Go.Proofs.YtkmdamljhagogaaDoor
end
