/- Shape; Counted; RCheck; KFn. -/
import Derived.Test.YtkmdamljhagogaaDoorPartR11
import Derived.Test.YtkmdamljhagogaaDoorPartR16
import Derived.Test.YtkmdamljhagogaaDoorPartR15
section
/- What a right text's functions look like (no program). -/
namespace Go.Proofs.YtkmdamljhagogaaDoor

/-- Right answers are of a shape, and cost no more than was read. -/
def Fine {α : Type} (one : Reader α) (Sh : α → Prop) (c : α → Nat) : Prop := ∀ l, (one l 0).z = 0 → Sh (one l 0).v ∧ c (one l 0).v + (one l 0).l.length ≤ l.length
theorem until_fine {α : Type} {one : Reader α} {Sh : α → Prop} {c : α → Nat} (h : Fine one Sh c) : ∀ n, Fine (until_ one n) (fun v => ∀ x ∈ v, Sh x) (fun v => (v.map c).sum)
  | 0, l => fun _ => ⟨fun x hx => by simp [until_] at hx, by simp [until_]⟩
  | n + 1, l => by
    have h1 := skip_len l
    unfold until_
    rw [if_pos rfl]
    split
    · intro _
      refine ⟨fun x hx => by simp at hx, ?_⟩
      simp
      omega
    · intro hz
      have hz' : (until_ one n (one (skip l) 0).l (one (skip l) 0).z).z = 0 := hz
      by_cases h0 : (one (skip l) 0).z = 0
      · obtain ⟨a1, a2⟩ := h (skip l) h0
        rw [h0] at hz'
        obtain ⟨b1, b2⟩ := until_fine h n _ hz'
        simp only [h0]
        refine ⟨fun x hx => ?_, ?_⟩
        · rcases List.mem_cons.1 hx with rfl | hx
          · exact a1
          · exact b1 x hx
        · simp only [List.map_cons, List.sum_cons] at b2 ⊢
          omega
      · rw [until_keeps n _ _ h0] at hz'
        exact absurd hz' h0
theorem times_fine {α : Type} {one : Reader α} {Sh : α → Prop} {c : α → Nat} (h : Fine one Sh c) (hk : Keeps one) : ∀ n, Fine (times one n) (fun v => ∀ x ∈ v, Sh x) (fun v => (v.map c).sum)
  | 0, l => fun _ => ⟨fun x hx => by simp [times] at hx, by simp [times]⟩
  | n + 1, l => by
    unfold times
    intro hz
    have hz' : (times one n (one l 0).l (one l 0).z).z = 0 := hz
    by_cases h0 : (one l 0).z = 0
    · obtain ⟨a1, a2⟩ := h l h0
      rw [h0] at hz'
      obtain ⟨b1, b2⟩ := times_fine h hk n _ hz'
      simp only [h0]
      refine ⟨fun x hx => ?_, ?_⟩
      · rcases List.mem_cons.1 hx with rfl | hx
        · exact a1
        · exact b1 x hx
      · simp only [List.map_cons, List.sum_cons] at b2 ⊢
        omega
    · rw [times_keeps hk n _ _ h0] at hz'
      exact absurd hz' h0
theorem exsN_sum : ∀ l : List Ex, exsN l = (l.map exN).sum
  | [] => by simp [exsN]
  | x :: l => by rw [exsN, exsN_sum l]; simp
theorem stsN_sum : ∀ l : List St, stsN l = (l.map stN).sum
  | [] => by simp [stsN]
  | x :: l => by rw [stsN, stsN_sum l]; simp
theorem isName_len {w : Bs} (h : isName w = true) : w.length ≤ 1500 := by
  unfold isName at h
  simp only [Bool.and_eq_true, decide_eq_true_eq] at h
  omega
theorem bad_ok {z e : Int} (he : e ≠ 0) : ¬ bad z e = 0 := bad_ne z e he
theorem name_fine : Fine name (fun t => t.length ≤ 1500) (fun _ => 1) := by
  intro l h
  have hl := name_less l h
  refine ⟨?_, by dsimp only; omega⟩
  have h' : (if isName (word l 0).v then (word l 0).z else bad (word l 0).z 7) = 0 := h
  by_cases hn : isName (word l 0).v = true
  · exact isName_len hn
  · rw [if_neg hn] at h'; exact absurd h' (bad_ok (by decide))
theorem wordE_sh {w : Bs} {z : Int} (h : wordEZ w z = 0) : ExSh (wordE w) ∧ exN (wordE w) = 1 := by
  unfold wordEZ at h
  unfold wordE
  split
  · exact ⟨.mk (fun _ => rfl) (by simp) (fun x hx => by simp at hx), by simp [exN, exsN]⟩
  · rename_i hn
    rw [hn] at h
    simp only at h
    by_cases hw : isName w = true
    · exact ⟨.mk (fun _ => rfl) (isName_len hw) (fun x hx => by simp at hx), by simp [exN, exsN]⟩
    · rw [if_neg hw] at h; exact absurd h (bad_ok (by decide))
theorem single_fine {l : Bs} (h : (single l 0).z = 0) : ExSh (single l 0).v ∧ exN (single l 0).v + (single l 0).l.length ≤ l.length := by
  have h1 : wordEZ (word l 0).v (word l 0).z = 0 := h
  have h2 := word_less l (wordEZ_ok h1)
  obtain ⟨a, b⟩ := wordE_sh h1
  refine ⟨a, ?_⟩
  show exN (wordE (word l 0).v) + (word l 0).l.length ≤ _
  omega
theorem quoted_fine {t : Bs} (h : (quoted t 0).z = 0) : ExSh (quoted t 0).v ∧ exN (quoted t 0).v + (quoted t 0).l.length ≤ t.length + 1 := by
  have hs := quoted_small t 0
  revert h hs
  unfold quoted
  split
  · intro h; exact absurd h (bad_ne 0 8 (by decide))
  · rename_i a r hd
    intro h hs
    simp only at h hs ⊢
    by_cases hw : isWord (t.takeWhile noQ) = true
    · have hl : (t.takeWhile noQ).length ≤ 1500 := by
        unfold isWord at hw
        simp only [Bool.and_eq_true, decide_eq_true_eq] at hw
        omega
      exact ⟨.mk (fun _ => rfl) hl (fun x hx => by simp at hx), by simp [exN, exsN]; omega⟩
    · rw [if_neg hw] at h; exact absurd h (bad_ok (by decide))
theorem formOf_kind (w : Bs) : ((formOf w).1 = 1 ∨ (formOf w).1 = 2 ∨ (formOf w).1 = 3 ∨ (formOf w).1 = 9) → (formOf w).2.2 = some 0 := by
  unfold formOf
  repeat' split
  all_goals simp
theorem formed_fine {args : Reader (List Ex)} (hk : Keeps args) (ha : Fine args (fun v => ∀ x ∈ v, ExSh x) (fun v => (v.map exN).sum)) {t : Bs} (h : (formed args t 0).z = 0) : ExSh (formed args t 0).v ∧ exN (formed args t 0).v + (formed args t 0).l.length ≤ t.length + 1 := by
  have hws := word_small t 0
  have h1 : (if manyBad (word t 0).v (args (word t 0).l (headZ (word t 0).v (word t 0).z)).v.length then bad (args (word t 0).l (headZ (word t 0).v (word t 0).z)).z 5 else (args (word t 0).l (headZ (word t 0).v (word t 0).z)).z) = 0 := h
  by_cases hm : manyBad (word t 0).v (args (word t 0).l (headZ (word t 0).v (word t 0).z)).v.length = true
  · rw [if_pos hm] at h1; exact absurd h1 (bad_ok (by decide))
  · rw [if_neg hm] at h1
    by_cases hh : headZ (word t 0).v (word t 0).z = 0
    · rw [hh] at h1 hm
      obtain ⟨a1, a2⟩ := ha _ h1
      show ExSh (headE (word t 0).v (args (word t 0).l (headZ (word t 0).v (word t 0).z)).v) ∧ exN (headE (word t 0).v (args (word t 0).l (headZ (word t 0).v (word t 0).z)).v) + (args (word t 0).l (headZ (word t 0).v (word t 0).z)).l.length ≤ _
      rw [hh]
      refine ⟨.mk (fun hx => ?_) ?_ a1, ?_⟩
      · have := formOf_kind _ hx
        unfold manyBad at hm
        rw [this] at hm
        simpa using hm
      · by_cases hf : (formOf (word t 0).v).2.2 = none
        · rw [if_pos hf]
          unfold headZ at hh
          by_cases hn : isName (word t 0).v = true
          · exact isName_len hn
          · rw [if_pos ⟨hf, by simpa using hn⟩] at hh; exact absurd hh (bad_ok (by decide))
        · rw [if_neg hf]; simp
      · unfold headE
        rw [exN, exsN_sum]
        simp only at a2
        omega
    · rw [hk _ _ hh] at h1; exact absurd h1 hh
theorem expr_fine (N : Nat) : ∀ k, Fine (expr N k) ExSh exN
  | 0, l => fun h => absurd h (bad_ne 0 9 (by decide))
  | k + 1, l => by
    have h := skip_len l
    unfold expr
    rw [if_pos rfl]
    split
    · intro hz
      obtain ⟨a, b⟩ := single_fine hz
      exact ⟨a, Nat.le_trans b (by simp)⟩
    · rename_i c t hs
      rw [hs] at h
      simp at h
      split
      · intro hz; obtain ⟨a, b⟩ := quoted_fine hz; exact ⟨a, by omega⟩
      · split
        · intro hz; obtain ⟨a, b⟩ := formed_fine (until_keeps N) (until_fine (expr_fine N k) N) hz; exact ⟨a, by omega⟩
        · intro hz; obtain ⟨a, b⟩ := single_fine hz; exact ⟨a, by simp at b; omega⟩
theorem optName_fine (k : Nat) : Fine (optName k) (fun t => t.length ≤ 1500) (fun _ => 0) := by
  intro l
  unfold optName
  split
  · intro h; obtain ⟨a, b⟩ := name_fine l h; exact ⟨a, by dsimp only at b ⊢; omega⟩
  · intro _; exact ⟨by simp, by simp⟩
theorem rest_fine {nest : Reader (List St)} (hk : Keeps nest) (hn : Fine nest (fun v => ∀ x ∈ v, StSh x) (fun v => (v.map stN).sum)) (k : Nat) :
    Fine (restP nest k) (fun v => (∀ s ∈ v.1, StSh s) ∧ (∀ s ∈ v.2, StSh s) ∧ (k ≠ 3 → k ≠ 4 → v.1 = []) ∧ (k ≠ 3 → v.2 = [])) (fun v => (v.1.map stN).sum + (v.2.map stN).sum) := by
  intro l
  unfold restP
  split
  · intro hz
    have hz1 : (must 41 (nest (must 40 (nest (must 40 l 0).l (must 40 l 0).z).l (nest (must 40 l 0).l (must 40 l 0).z).z).l (must 40 (nest (must 40 l 0).l (must 40 l 0).z).l (nest (must 40 l 0).l (must 40 l 0).z).z).z).l (nest (must 40 (nest (must 40 l 0).l (must 40 l 0).z).l (nest (must 40 l 0).l (must 40 l 0).z).z).l (must 40 (nest (must 40 l 0).l (must 40 l 0).z).l (nest (must 40 l 0).l (must 40 l 0).z).z).z).z).z = 0 := hz
    simp only
    have s1 := must_small 40 l 0
    generalize must 40 l 0 = m at hz1 s1 ⊢
    by_cases h1 : ¬ (m.z = 0)
    · rw [hk _ _ h1, must_keeps 40 _ _ h1, hk _ _ h1, must_keeps 41 _ _ h1] at hz1; exact absurd hz1 h1
    replace h1 := Decidable.not_not.1 h1
    rw [h1] at hz1 ⊢
    have f1 := hn m.l
    generalize nest m.l 0 = x at hz1 f1 ⊢
    by_cases h2 : ¬ (x.z = 0)
    · rw [must_keeps 40 _ _ h2, hk _ _ h2, must_keeps 41 _ _ h2] at hz1; exact absurd hz1 h2
    replace h2 := Decidable.not_not.1 h2
    rw [h2] at hz1 ⊢
    have s2 := must_small 40 x.l 0
    generalize must 40 x.l 0 = m2 at hz1 s2 ⊢
    by_cases h3 : ¬ (m2.z = 0)
    · rw [hk _ _ h3, must_keeps 41 _ _ h3] at hz1; exact absurd hz1 h3
    replace h3 := Decidable.not_not.1 h3
    rw [h3] at hz1 ⊢
    have f2 := hn m2.l
    generalize nest m2.l 0 = y at hz1 f2 ⊢
    by_cases h4 : ¬ (y.z = 0)
    · rw [must_keeps 41 _ _ h4] at hz1; exact absurd hz1 h4
    replace h4 := Decidable.not_not.1 h4
    rw [h4]
    have s3 := must_small 41 y.l 0
    obtain ⟨a1, a2⟩ := f1 h2
    obtain ⟨b1, b2⟩ := f2 h4
    rename_i k3
    refine ⟨⟨a1, b1, fun h => absurd k3 h, fun h => absurd k3 h⟩, ?_⟩
    simp only at a2 b2
    omega
  · split
    · rename_i k3 k4
      intro hz
      obtain ⟨a1, a2⟩ := hn l hz
      refine ⟨⟨a1, fun s hs => by simp at hs, fun _ h => absurd k4 h, fun _ => rfl⟩, ?_⟩
      simp only [List.map_nil, List.sum_nil] at a2 ⊢
      omega
    · intro hz
      refine ⟨⟨fun s hs => by simp at hs, fun s hs => by simp at hs, fun _ _ => rfl, fun _ => rfl⟩, ?_⟩
      have := must_small 41 l 0
      simpa using this
theorem parts_fine {e : Reader Ex} {nest : Reader (List St)} (ke : Keeps e) (he : Fine e ExSh exN) (hk : Keeps nest) (hn : Fine nest (fun v => ∀ x ∈ v, StSh x) (fun v => (v.map stN).sum)) (k : Nat) {l : Bs} (h : (parts e nest k l 0).z = 0) : StSh (parts e nest k l 0).v ∧ stN (parts e nest k l 0).v + (parts e nest k l 0).l.length ≤ l.length + 1 := by
  have hz : (restP nest k (times e (argsOf k) (optName k l 0).l (optName k l 0).z).l (times e (argsOf k) (optName k l 0).l (optName k l 0).z).z).z = 0 := h
  clear h
  unfold parts
  simp only
  have f1 := optName_fine k l
  generalize optName k l 0 = n at hz f1 ⊢
  by_cases h1 : ¬ (n.z = 0)
  · rw [times_keeps ke _ _ _ h1, rest_keeps hk k _ _ h1] at hz; exact absurd hz h1
  replace h1 := Decidable.not_not.1 h1
  rw [h1] at hz ⊢
  have f2 := times_fine he ke (argsOf k) n.l
  generalize times e (argsOf k) n.l 0 = a at hz f2 ⊢
  by_cases h2 : ¬ (a.z = 0)
  · rw [rest_keeps hk k _ _ h2] at hz; exact absurd hz h2
  replace h2 := Decidable.not_not.1 h2
  rw [h2] at hz ⊢
  have f3 := rest_fine hk hn k a.l
  generalize restP nest k a.l 0 = r at hz f3 ⊢
  obtain ⟨a1, a2⟩ := f1 h1
  obtain ⟨b1, b2⟩ := f2 h2
  obtain ⟨⟨c1, c2, c3, c4⟩, c5⟩ := f3 hz
  refine ⟨.mk (fun x y => c3 (by omega) (by omega)) (fun x => c4 (by omega)) a1 b1 c1 c2, ?_⟩
  rw [stN, exsN_sum, stsN_sum, stsN_sum]
  simp only at a2 b2 c5
  omega
theorem stmt_fine (N : Nat) : ∀ k, Fine (stmt N k) StSh stN
  | 0, l => fun h => absurd h (bad_ne 0 9 (by decide))
  | k + 1, l => by
    unfold stmt
    rw [if_pos rfl]
    intro h
    have hz : (parts (expr N k) (until_ (stmt N k) N) (kindOf (word (must 40 l 0).l (must 40 l 0).z).v) (word (must 40 l 0).l (must 40 l 0).z).l (if kindOf (word (must 40 l 0).l (must 40 l 0).z).v = 0 then bad (word (must 40 l 0).l (must 40 l 0).z).z 1 else (word (must 40 l 0).l (must 40 l 0).z).z)).z = 0 := h
    unfold stmtP
    simp only
    clear h
    have s1 := must_less 40 l
    generalize must 40 l 0 = m at hz s1 ⊢
    have kp := parts_keeps (expr_keeps N k) (until_keeps (one := stmt N k) N)
    by_cases h1 : ¬ (m.z = 0)
    · have hw := word_keeps m.l _ h1
      have hb : (if kindOf (word m.l m.z).v = 0 then bad (word m.l m.z).z 1 else (word m.l m.z).z) = m.z := by
        rw [hw]
        split
        · exact bad_of h1
        · rfl
      rw [hb, kp _ _ _ h1] at hz
      exact absurd hz h1
    replace h1 := Decidable.not_not.1 h1
    rw [h1] at hz ⊢
    have s2 := word_small m.l 0
    generalize word m.l 0 = w at hz s2 ⊢
    by_cases h2 : ¬ ((if kindOf w.v = 0 then bad w.z 1 else w.z) = 0)
    · rw [kp _ _ _ h2] at hz; exact absurd hz h2
    replace h2 := Decidable.not_not.1 h2
    rw [h2] at hz ⊢
    obtain ⟨a1, a2⟩ := parts_fine (expr_keeps N k) (expr_fine N k) (until_keeps N) (until_fine (stmt_fine N k) N) _ hz
    have := s1 h1
    exact ⟨a1, by omega⟩
theorem fn_fine (N : Nat) : Fine (fn N) FnSh (fun f => f.p.length + stsN f.b) := by
  intro l h
  have hz : (until_ (stmt N 11) N (until_ name N (must 40 (name (must 40 l 0).l (must 40 l 0).z).l (name (must 40 l 0).l (must 40 l 0).z).z).l (must 40 (name (must 40 l 0).l (must 40 l 0).z).l (name (must 40 l 0).l (must 40 l 0).z).z).z).l (until_ name N (must 40 (name (must 40 l 0).l (must 40 l 0).z).l (name (must 40 l 0).l (must 40 l 0).z).z).l (must 40 (name (must 40 l 0).l (must 40 l 0).z).l (name (must 40 l 0).l (must 40 l 0).z).z).z).z).z = 0 := h
  clear h
  unfold fn
  simp only
  have s1 := must_small 40 l 0
  generalize must 40 l 0 = m at hz s1 ⊢
  have K := until_keeps (one := stmt N 11) N
  have K2 := until_keeps (one := name) N
  by_cases h1 : ¬ (m.z = 0)
  · rw [name_keeps _ _ h1, must_keeps 40 _ _ h1, K2 _ _ h1, K _ _ h1] at hz; exact absurd hz h1
  replace h1 := Decidable.not_not.1 h1
  rw [h1] at hz ⊢
  have f1 := name_fine m.l
  generalize name m.l 0 = t at hz f1 ⊢
  by_cases h2 : ¬ (t.z = 0)
  · rw [must_keeps 40 _ _ h2, K2 _ _ h2, K _ _ h2] at hz; exact absurd hz h2
  replace h2 := Decidable.not_not.1 h2
  rw [h2] at hz ⊢
  have s2 := must_small 40 t.l 0
  generalize must 40 t.l 0 = b at hz s2 ⊢
  by_cases h3 : ¬ (b.z = 0)
  · rw [K2 _ _ h3, K _ _ h3] at hz; exact absurd hz h3
  replace h3 := Decidable.not_not.1 h3
  rw [h3] at hz ⊢
  have f2 := until_fine name_fine N b.l
  generalize until_ name N b.l 0 = p at hz f2 ⊢
  by_cases h4 : ¬ (p.z = 0)
  · rw [K _ _ h4] at hz; exact absurd hz h4
  replace h4 := Decidable.not_not.1 h4
  rw [h4] at hz ⊢
  have f3 := until_fine (stmt_fine N 11) N p.l
  generalize until_ (stmt N 11) N p.l 0 = s at hz f3 ⊢
  obtain ⟨a1, a2⟩ := f1 h2
  obtain ⟨b1, b2⟩ := f2 h4
  obtain ⟨c1, c2⟩ := f3 hz
  refine ⟨⟨a1, b1, c1⟩, ?_⟩
  simp only at a2 b2 c2 ⊢
  rw [stsN_sum]
  have : ∀ l : List Bs, (l.map fun _ => 1).sum = l.length := by
    intro l
    induction l with
    | nil => rfl
    | cons x l ih => simp only [List.map_cons, List.sum_cons, List.length_cons, ih]; omega
  have := this p.v
  omega
theorem fns_fine (N : Nat) : ∀ n, Fine (fnsP N n) (fun v => ∀ f ∈ v, FnSh f) fnsN
  | 0, l => fun _ => ⟨fun x hx => by simp [fnsP] at hx, by simp [fnsP, fnsN]⟩
  | n + 1, l => by
    have hs := skip_len l
    unfold fnsP
    rw [if_pos rfl]
    split
    · intro _; exact ⟨fun x hx => by simp at hx, by simp [fnsN]⟩
    · intro hz
      have hz1 : (fnsP N n (fn N (skip l) 0).l (fn N (skip l) 0).z).z = 0 := hz
      clear hz
      simp only
      have f1 := fn_fine N (skip l)
      generalize fn N (skip l) 0 = r at hz1 f1 ⊢
      by_cases h1 : ¬ (r.z = 0)
      · have : (fnsP N n r.l r.z).z = r.z := by
          cases n with
          | zero => rfl
          | succ n => unfold fnsP; rw [if_neg h1]
        rw [this] at hz1; exact absurd hz1 h1
      replace h1 := Decidable.not_not.1 h1
      rw [h1] at hz1 ⊢
      obtain ⟨a1, a2⟩ := f1 h1
      obtain ⟨b1, b2⟩ := fns_fine N n r.l hz1
      refine ⟨fun f hf => ?_, ?_⟩
      · rcases List.mem_cons.1 hf with rfl | hf
        · exact a1
        · exact b1 f hf
      · unfold fnsN at b2 ⊢
        simp only [List.map_cons, List.sum_cons] at a2 b2 ⊢
        omega
end Go.Proofs.YtkmdamljhagogaaDoor
end
section
/- How often each name stands in a list. -/
set_option maxHeartbeats 0
namespace Go.Proofs.YtkmdamljhagogaaDoor
open Go Go.RowKit
theorem snoc_ind {P : List Bs → Prop} (h0 : P []) (h1 : ∀ l x, P l → P (l ++ [x])) (l : List Bs) : P l := by
  have h : ∀ k, P (l.take k) := by
    intro k
    induction k with
    | zero => rw [List.take_zero]; exact h0
    | succ k ih =>
      by_cases hk : k < l.length
      · rw [← List.take_append_getElem hk]; exact h1 _ _ ih
      · rw [List.take_of_length_le (by omega)]
        rwa [List.take_of_length_le (by omega)] at ih
  have := h l.length
  rwa [List.take_length] at this
theorem dup_snoc (x : Bs) : ∀ l : List Bs, dup (l ++ [x]) = (dup l || l.contains x)
  | [] => by simp [dup]
  | y :: l => by
    have h : (l ++ [x]).contains y = (l.contains y || decide (y = x)) := by
      rw [Bool.eq_iff_iff]; simp
    rw [List.cons_append, dup, dup, dup_snoc x l, h]
    rw [Bool.eq_iff_iff]
    simp only [Bool.or_eq_true, decide_eq_true_eq, List.contains_cons, beq_iff_eq]
    constructor
    · rintro ((h | h) | (h | h))
      · exact .inl (.inl h)
      · exact .inr (.inl h.symm)
      · exact .inl (.inr h)
      · exact .inr (.inr h)
    · rintro ((h | h) | (h | h))
      · exact .inl (.inl h)
      · exact .inr (.inl h)
      · exact .inl (.inr h.symm)
      · exact .inr (.inr h)
def cnt1 (A : AMap) (x : Bs) : AMap := A.put x ((A.f x).getD 0 + 1)
def cnt (l : List Bs) : AMap := l.foldl cnt1 AMap.empty
theorem cnt_snoc (l : List Bs) (x : Bs) : cnt (l ++ [x]) = cnt1 (cnt l) x := by unfold cnt; rw [List.foldl_append]; rfl
theorem cnt_some (l : List Bs) : ∀ y, ((cnt l).f y).isSome = l.contains y := by
  refine snoc_ind (P := fun l => ∀ y, ((cnt l).f y).isSome = l.contains y) (fun y => by simp [cnt, AMap.empty]) (fun l x ih y => ?_) l
  rw [cnt_snoc]
  unfold cnt1 AMap.put
  dsimp only
  by_cases hy : y = x
  · simp [hy]
  · rw [if_neg hy, ih y]
    rw [Bool.eq_iff_iff]; simp [hy]
theorem cnt_n (l : List Bs) : (cnt l).n ≤ l.length ∧ (dup l = true ↔ (cnt l).n < l.length) := by
  refine snoc_ind (P := fun l => (cnt l).n ≤ l.length ∧ (dup l = true ↔ (cnt l).n < l.length)) (by simp [cnt, AMap.empty, dup]) (fun l x ih => ?_) l
  have hs := cnt_some l x
  have hn : (cnt (l ++ [x])).n = if l.contains x then (cnt l).n else (cnt l).n + 1 := by
    rw [cnt_snoc]
    unfold cnt1 AMap.put
    dsimp only
    rw [hs]
  rw [hn, dup_snoc, List.length_append, List.length_singleton, Bool.or_eq_true, ih.2]
  have h1 := ih.1
  split
  · rename_i h
    refine ⟨by omega, fun _ => by omega, fun _ => .inr h⟩
  · rename_i h
    refine ⟨by omega, fun hh => ?_, fun hh => .inl (by omega)⟩
    rcases hh with hh | hh
    · omega
    · exact absurd hh h
theorem cnt_v (l : List Bs) : ∀ y, 0 ≤ ((cnt l).f y).getD 0 ∧ ((cnt l).f y).getD 0 ≤ l.length := by
  refine snoc_ind (P := fun l => ∀ y, 0 ≤ ((cnt l).f y).getD 0 ∧ ((cnt l).f y).getD 0 ≤ l.length) (fun y => by simp [cnt, AMap.empty]) (fun l x ih y => ?_) l
  rw [cnt_snoc]
  unfold cnt1 AMap.put
  dsimp only
  rw [List.length_append, List.length_singleton]
  by_cases hy : y = x
  · rw [if_pos hy]; have := ih x; simp only [Option.getD_some]; omega
  · rw [if_neg hy]; have := ih y; omega
theorem counted_any (s : Slc) (p : List Bs) (w : World) (h : Sl encN 1 w s.v p) (hl : ∀ x ∈ p, x.length ≤ 1500) (hn : p.length ≤ 50000) :
    Calls Tryd.prog 25 #[.slice s.a s.n s.c] w fun e w' => e = .returned (.map (some w.heap.size)) ∧ SI w.heap.size (cnt p) w' ∧ Fr nothing w w' := by
  obtain ⟨hpn, hpm⟩ := sl_len h
  obtain ⟨pa, pn, pc⟩ := s
  simp only at hpn
  subst hpn
  have HS := hide h
  have HM := hide (SI.made w)
  have HF0 : Hid (Fr nothing w (w.alloc (.map #[] 0))) := (Fr.refl _ _).alloc _
  have hmm := @run_makeMap Tryd.prog
  clear h
  go_enter Tryd.func25, Tryd.ntmps25
  go_wp2
  clear hmm
  generalize w.alloc (.map #[] 0) = w3 at HM HF0 ⊢
  obtain ⟨mb, hmb⟩ : ∃ x, x = w.heap.size := ⟨_, rfl⟩
  rw [← hmb] at HM
  rw [← hmb]
  have HGE : Hid (w.heap.size ≤ mb) := by show _ ≤ _; omega
  have HMB := hide hmb
  clear hmb
  go_loopw [9, 5] (fun i _ wr => ∃ (q : Nat), q ≤ p.length ∧ i = .int .i64 q ∧ Hid (SI mb (cnt (p.take q)) wr ∧ Fr nothing w wr)) (fun i _ _ => p.length - (intOf i).toNat)
  case atStart => exact ⟨0, Nat.zero_le _, rfl, HM.out, HF0.out⟩
  case round =>
    obtain ⟨q, hq, rfl, hR⟩ := hrel
    by_cases hql : q < p.length
    · have hx : p[q]? = some p[q] := List.getElem?_eq_getElem hql
      have hxm : p[q] ∈ p := List.getElem_mem hql
      have htq : p.take (q + 1) = p.take q ++ [p[q]] := (List.take_append_getElem hql).symm
      generalize p[q] = x at hx hxm htq
      obtain ⟨g, o, hg, dg, u0⟩ := sl_elem1 (s := ⟨pa, p.length, pc⟩) HS.out hx
      simp only at hg
      subst hg
      obtain ⟨hM, hF⟩ := hR.out
      rw [← hF.cell (p := ⟨g, _, none⟩) dg id] at u0
      have eg : g < wr.heap.size := Nat.lt_of_lt_of_le dg hF.size
      have hxl := hl x hxm
      have hv := cnt_v (p.take q) x
      have hc := (cnt_n (p.take q)).1
      rw [List.length_take, Nat.min_eq_left hq] at hv hc
      have hlk := hM.look x (by omega)
      obtain ⟨wu, ru, hs, hf⟩ := hM.store x (by omega) (((cnt (p.take q)).f x).getD 0 + 1) (by omega) (by omega) (by omega)
      have HS2 : Hid (SI mb (cnt (p.take (q + 1))) wu) := by rw [htq, cnt_snoc]; exact hs
      have HF2 := hide (hF.then hf (fun k hk e => by have := HGE.out; omega))
      have hv1 := hv.1
      have hv2 := hv.2
      clear hR hM hF hs hf hv hc hx
      generalize ((cnt (p.take q)).f x).getD 0 = c at *
      have hv3 : c + 1 ≤ 9223372036854775807 := by omega
      go_wp2
      go_roundw
      case rel => exact ⟨q + 1, by omega, by go_num, HS2.out, HF2.out⟩
      case measure => simp [intOf]; omega
    · have hqe : q = p.length := by omega
      have HM2 : Hid (SI mb (cnt p) wr) := by have := hR.out.1; rw [hqe, List.take_length] at this; exact this
      have HF2 := hide hR.out.2
      clear hR
      go_wp2
      go_ret
      rw [← HMB.out]
      exact ⟨rfl, HM2.out, HF2.out⟩
end Go.Proofs.YtkmdamljhagogaaDoor
end
section
/- The document's own check of functions. -/
set_option maxHeartbeats 0
set_option maxRecDepth 100000
namespace Go.Proofs.YtkmdamljhagogaaDoor
open Go Go.RowKit
abbrev fo (a : RawF) : Obj := .cells #[.string (bs a.t), .slice a.p.a a.p.n a.p.c, .slice a.b.a a.b.n a.b.c] 43
theorem fo_cells {w w' : World} {r : RawF} {S : Nat → Prop} (hf : Fr S (w.alloc (fo r)) w') (hs : ¬ S w.heap.size) : w'.cell? ⟨w.heap.size, 0, none⟩ = some (.string (bs r.t)) ∧ w'.cell? ⟨w.heap.size, 1, none⟩ = some (.slice r.p.a r.p.n r.p.c) ∧ w'.cell? ⟨w.heap.size, 2, none⟩ = some (.slice r.b.a r.b.n r.b.c) ∧ w.heap.size < w'.heap.size := by
  have hn := made_cells hf hs
  exact ⟨hn.1 0, hn.1 1, hn.1 2, hn.2.2⟩
theorem sl_take {w : World} {pa : Option Addr} {n c : Nat} {p : List Bs} (h : Sl encN 1 w (.slice pa n c) p) (i : Nat) (hi : i ≤ p.length) (c' : Nat) : Sl encN 1 w (.slice pa i c') (p.take i) := by
  obtain ⟨ao, cap, e, h1, h2⟩ := h
  injection e with e1 e2 e3
  subst e1
  refine ⟨pa, c', ?_, ?_, fun k x hk => h2 k x ?_⟩
  · rw [List.length_take, Nat.min_eq_left hi]
  · rw [List.length_take]; omega
  · rw [List.getElem?_take] at hk
    split at hk
    · exact hk
    · cases hk
/-- The checker's first state. -/
theorem CI.made (w : World) : CI (w.heap.size + 1 + 1) w.heap.size (w.heap.size + 1) AMap.empty 0 WS.empty (((w.alloc (.map #[] 0)).alloc (.map #[] 0)).alloc (.cells #[.map (some w.heap.size), .int .i64 0, .map (some (w.heap.size + 1))] 65)) := by
  have s1 : (w.alloc (.map #[] 0)).heap.size = w.heap.size + 1 := by simp
  have s2 : ((w.alloc (.map #[] 0)).alloc (.map #[] 0)).heap.size = w.heap.size + 1 + 1 := by simp
  have hn := made_cells (Fr.refl nothing (((w.alloc (.map #[] 0)).alloc (.map #[] 0)).alloc (.cells #[.map (some w.heap.size), .int .i64 0, .map (some (w.heap.size + 1))] 65))) id
  rw [s2] at hn
  have f1 : Fr nothing (w.alloc (.map #[] 0)) (((w.alloc (.map #[] 0)).alloc (.map #[] 0)).alloc (.cells #[.map (some w.heap.size), .int .i64 0, .map (some (w.heap.size + 1))] 65)) := ((Fr.refl _ _).alloc _).alloc _
  have f2 : Fr nothing ((w.alloc (.map #[] 0)).alloc (.map #[] 0)) (((w.alloc (.map #[] 0)).alloc (.map #[] 0)).alloc (.cells #[.map (some w.heap.size), .int .i64 0, .map (some (w.heap.size + 1))] 65)) := (Fr.refl _ _).alloc _
  have m2 := SB.made (w.alloc (.map #[] 0))
  rw [s1] at m2
  exact ⟨hn.1 0, hn.1 1, hn.1 2, hn.2.1 1, hn.2.2, (SI.made w).fr f1 id, ⟨_, m2.fr f2 id, fun _ => rfl, rfl⟩, by omega, by omega, by omega⟩
/-- A function's head is put into the checker's map. -/
theorem CI.head {cb fb wb : Nat} {F : AMap} {v : Int} {W : WS} {w : World} (h : CI cb fb wb F v W w) (t : Bs) (ht : t.length ≤ 100000) (n : Nat) (hn : F.n ≤ 100000) (h1 : n ≤ 4) :
    ∃ w', (Instr.mapUpdate 55 (.map (some fb)) (.string (bs t)) (.int .i64 n)).run Tryd.prog w = .ok () w' ∧ CI cb fb wb (F.put t n) v W w' ∧ Fr (fun j => j = fb) w w' := by
  obtain ⟨w', r, s, f⟩ := h.fm.store t ht n hn (by omega) (by omega)
  have hne := h.ne
  obtain ⟨A, a1, a2, a3⟩ := h.wm
  exact ⟨w', r, ⟨(f.cell (p := ⟨cb, 0, none⟩) h.lt hne.1).trans h.c0, (f.cell (p := ⟨cb, 1, none⟩) h.lt hne.1).trans h.c1, (f.cell (p := ⟨cb, 2, none⟩) h.lt hne.1).trans h.c2, (f.frozen (p := ⟨cb, 1, none⟩) h.lt hne.1).trans h.f1, Nat.lt_of_lt_of_le h.lt f.size, s, ⟨A, a1.fr f (fun e => hne.2.2 e.symm), a2, a3⟩, hne⟩, f⟩
theorem headsC_bad1 {f : Fn} {l : List Fn} {F : Bs → Option Int} (h : ((F f.t).isSome || dup f.p) = true) : headsC (f :: l) F = (7, F) := by rw [headsC, if_pos h]
theorem headsC_bad2 {f : Fn} {l : List Fn} {F : Bs → Option Int} (h : ((F f.t).isSome || dup f.p) = false) (h4 : 4 < f.p.length) : headsC (f :: l) F = (5, F) := by rw [headsC, if_neg (by rw [h]; decide), if_pos h4]
theorem headsC_ok {f : Fn} {l : List Fn} {F : AMap} (h : ((F.f f.t).isSome || dup f.p) = false) (h4 : ¬ 4 < f.p.length) : headsC (f :: l) F.f = headsC l (F.put f.t f.p.length).f := by rw [headsC, if_neg (by rw [h]; decide), if_neg h4]; rfl
theorem checkC_head {l : List Fn} (h0 : ¬ l.length = 0) (h5 : ¬ 5 < l.length) {e : Int} {F : Bs → Option Int} (h : headsC l (fun _ => none) = (e, F)) (he : e ≠ 0) : checkC l = e := by
  unfold checkC
  rw [if_neg (by omega), h, if_pos he]

theorem rcheck_any (l : List Fn) (s : Slc) (rs : List RawF) (w : World) (hS : Sl encG 3 w s.v rs) (hE : Each (FnOk w (fun k => k < w.heap.size)) rs l) (hCap : ∀ r ∈ rs, r.p.n ≤ r.p.c) (hSh : ∀ f ∈ l, FnSh f) (hN : fnsN l ≤ 50000) :
    Calls Tryd.prog 9 #[.slice s.a s.n s.c] w fun e w' => e = .returned (.int .i64 (checkC l)) ∧ Fr nothing w w' := by
  obtain ⟨hln, hlm⟩ := sl_len hS
  obtain ⟨la, ln, lc⟩ := s
  simp only at hln
  rw [hE.1] at hln
  subst hln
  have hll : l.length ≤ 9223372036854775807 := by have := hE.1; omega
  have HS := hide hS
  have HE := hide hE
  clear hS hE
  by_cases h0 : l.length = 0
  · have q0 : (((l.length : Nat) : Int) == 0) = true := by simp [h0]
    have HCK : Hid (checkC l = 5) := by show checkC l = 5; unfold checkC; rw [if_pos (.inl h0)]
    clear h0
    go_enter Tryd.func9, Tryd.ntmps9
    go_wp2
    go_ret
    exact ⟨by rw [HCK.out]; rfl, Fr.refl _ _⟩
  by_cases h5 : 5 < l.length
  · have q0 : (((l.length : Nat) : Int) == 0) = false := by simpa using h0
    have q5 : (5 : Int) < (l.length : Nat) := by omega
    have HCK : Hid (checkC l = 5) := by show checkC l = 5; unfold checkC; rw [if_pos (.inr h5)]
    go_enter Tryd.func9, Tryd.ntmps9
    go_wp2
    go_ret
    exact ⟨by rw [HCK.out]; rfl, Fr.refl _ _⟩
  have h5' : l.length ≤ 5 := by omega
  have q0 : (((l.length : Nat) : Int) == 0) = false := by simpa using h0
  have q5 : ¬ (5 : Int) < (l.length : Nat) := by omega
  have hmm := @run_makeMap Tryd.prog
  have HC0 := hide (CI.made w)
  have HF0 : Hid (Fr nothing w (((w.alloc (.map #[] 0)).alloc (.map #[] 0)).alloc (.cells #[.map (some w.heap.size), .int .i64 0, .map (some (w.heap.size + 1))] 65))) := (((Fr.refl _ _).alloc _).alloc _).alloc _
  go_enter Tryd.func9, Tryd.ntmps9
  go_wp2
  clear hmm
  generalize ((w.alloc (.map #[] 0)).alloc (.map #[] 0)).alloc (.cells #[.map (some w.heap.size), .int .i64 0, .map (some (w.heap.size + 1))] 65) = w3 at HC0 HF0 ⊢
  generalize hcb : w.heap.size + 1 + 1 = cb at HC0 ⊢
  generalize hwb : w.heap.size + 1 = wb at HC0 ⊢
  obtain ⟨fb, hfb⟩ : ∃ x, x = w.heap.size := ⟨_, rfl⟩
  rw [← hfb] at HC0
  rw [← hfb]
  have HGE : Hid (w.heap.size ≤ fb ∧ w.heap.size ≤ wb ∧ w.heap.size ≤ cb) := by show _ ∧ _; omega
  clear hfb hcb hwb
  go_loopw [27, 5, 6, 7, 8, 9] (fun i _ _ _ _ _ wr => ∃ (j : Nat) (F : AMap), j ≤ l.length ∧ i = .int .i64 j ∧ F.n ≤ j ∧ Hid (CI cb fb wb F 0 WS.empty wr ∧ Fr nothing w wr ∧ headsC l (fun _ => none) = headsC (l.drop j) F.f ∧ ∀ f ∈ l.take j, f.p.length ≤ 4)) (fun i _ _ _ _ _ _ => l.length - (intOf i).toNat)
  case atStart => exact ⟨0, AMap.empty, Nat.zero_le _, rfl, Nat.le_refl _, HC0.out, HF0.out, rfl, fun f hf => by simp at hf⟩
  case round =>
    obtain ⟨j, F, hj, rfl, hFn, hR⟩ := hrel
    by_cases hjl : j < l.length
    · have hx : l[j]? = some l[j] := List.getElem?_eq_getElem hjl
      have hr : rs[j]? = some (rs[j]'(by rw [HE.out.1]; omega)) := List.getElem?_eq_getElem _
      have hxm : l[j] ∈ l := List.getElem_mem hjl
      have hdr : l.drop j = l[j] :: l.drop (j + 1) := List.drop_eq_getElem_cons hjl
      have htk : l.take (j + 1) = l.take j ++ [l[j]] := (List.take_append_getElem hjl).symm
      generalize rs[j]'(by rw [HE.out.1]; omega) = r at hr
      generalize l[j] = f at hx hxm hdr htk
      have hok := HE.out.2 j r f hr hx
      have hcp := hCap r (List.mem_of_getElem? hr)
      obtain ⟨g, o, hg, dg, p0, p1, p2⟩ := sl_elem3 (s := ⟨la, l.length, lc⟩) HS.out hr
      simp only at hg
      subst hg
      obtain ⟨hCj, hFj, hEqj, hTj⟩ := hR.out
      rw [← hFj.cell (p := ⟨g, _, none⟩) dg id] at p0 p1 p2
      have eg : g < wr.heap.size := Nat.lt_of_lt_of_le dg hFj.size
      rw [hdr] at hEqj
      have hsh := hSh f hxm
      have hft := hsh.t
      obtain ⟨rt, ⟨pa, pn, pc⟩, rb⟩ := r
      obtain ⟨rfl, hp, hpP, hb, hbP⟩ := hok
      simp only at hp hpP hb hbP p0 p1 p2 hcp
      obtain ⟨hpn, hpm⟩ := sl_len hp
      simp only at hpn
      subst hpn
      have hFA : Fr nothing wr (wr.alloc (fo ⟨f.t, ⟨pa, f.p.length, pc⟩, rb⟩)) := (Fr.refl _ _).alloc _
      obtain ⟨y0, y1, y2, yl⟩ := fo_cells (Fr.refl nothing (wr.alloc (fo ⟨f.t, ⟨pa, f.p.length, pc⟩, rb⟩))) id
      have HCA := hide (hCj.fr hFA id id id)
      have HFA := hide (hFj.trans hFA)
      have HP := hide (hp.keep HFA.out (P := fun _ => True) (fun _ _ => trivial) (fun _ _ => id))
      have hlk : (Instr.lookup 55 (.map (some fb)) (.string (bs f.t)) true).run Tryd.prog (wr.alloc (fo ⟨f.t, ⟨pa, f.p.length, pc⟩, rb⟩)).drew = .ok (.tuple #[.int .i64 ((F.f f.t).getD 0), .bool (F.f f.t).isSome]) (wr.alloc (fo ⟨f.t, ⟨pa, f.p.length, pc⟩, rb⟩)).drew := (HCA.out.fr (S := nothing) (Fr.refl nothing _).drew id id id).fm.look2 f.t (by omega)
      have z0 := HCA.out.c0
      have zl := HCA.out.lt
      have HEQ := hide hEqj
      have HT := hide hTj
      have hpl : f.p.length ≤ 9223372036854775807 := by omega
      clear hR hCj hFj hEqj hTj hFA hp hpP hb hbP hr hx
      generalize hwa : wr.alloc (fo ⟨f.t, ⟨pa, f.p.length, pc⟩, rb⟩) = wa at *
      generalize hob : (F.f f.t).isSome = ob at hlk
      go_wp2_with fail
      go_region
      go_wp2_with fail
      clear hlk
      go_loopw [44, 7, 8, 9] (fun i had _ _ ws => ∃ (q : Nat), q ≤ f.p.length ∧ i = .int .i64 q ∧ had = .bool (ob || dup (f.p.take q)) ∧ ws = wa.drew) (fun i _ _ _ _ => f.p.length - (intOf i).toNat)
      case atStart => exact ⟨0, Nat.zero_le _, rfl, by simp [dup], rfl⟩
      case round =>
        obtain ⟨q, hq, rfl, rfl, hwq⟩ := hrel
        subst hwq
        by_cases hql : q < f.p.length
        · have hx : f.p[q]? = some f.p[q] := List.getElem?_eq_getElem hql
          have htq : f.p.take (q + 1) = f.p.take q ++ [f.p[q]] := (List.take_append_getElem hql).symm
          generalize f.p[q] = x at hx htq
          obtain ⟨g2, o2, hg2, dg2, u0⟩ := sl_elem1 (s := ⟨pa, f.p.length, pc⟩) HP.out hx
          simp only at hg2
          subst hg2
          cases hd : (ob || dup (f.p.take q)) with
          | true =>
            have HN : Hid ((ob || dup (f.p.take (q + 1))) = true) := by
              show (ob || dup (f.p.take (q + 1))) = true
              rw [htq, dup_snoc, ← Bool.or_assoc, hd]; rfl
            clear hd
            go_wp2
            go_roundw
            case rel => exact ⟨q + 1, by omega, by go_num, by rw [HN.out], by first | rfl | trivial⟩
            case measure => simp [intOf]; omega
          | false =>
            have HN : Hid ((ob || dup (f.p.take (q + 1))) = (f.p.take q).contains x) := by
              show (ob || dup (f.p.take (q + 1))) = _
              rw [htq, dup_snoc, ← Bool.or_assoc, hd]; rfl
            have HH := hide (fun c' => has_any ⟨some ⟨g2, o2, none⟩, q, c'⟩ (f.p.take q) x wa.drew (sl_take (HP.out.fr (Fr.refl nothing wa).drew (fun _ _ => id)) q (by omega) c'))
            have b1 : (0 : Int) ≤ (q : Nat) := by omega
            have b2 : ((q : Nat) : Int) ≤ (pc : Nat) := by omega
            have b3 : q ≤ pc := by omega
            clear hd
            go_wp2_with (go_at_call 27; refine (HH.out _).mono ?_; rintro e w4 ⟨rfl, hw4⟩; have hw4' := hw4.symm; subst hw4'; clear hw4)
            go_roundw
            case rel => exact ⟨q + 1, by omega, by go_num, by rw [HN.out]; simp, by first | rfl | trivial⟩
            case measure => simp [intOf]; omega
        · have hqe : q = f.p.length := by omega
          have htq : f.p.take q = f.p := by rw [hqe, List.take_length]
          rw [htq]
          cases hd : (ob || dup f.p) with
          | true =>
            have HEND : Hid (checkC l = 7) := by
              show checkC l = 7
              have h1 := HEQ.out
              rw [headsC_bad1 (by rw [hob]; exact hd)] at h1
              exact checkC_head h0 h5 h1 (by decide)
            clear hd
            go_wp2
            go_ret
            exact ⟨by rw [HEND.out]; rfl, HFA.out.drew⟩
          | false =>
            by_cases h4 : 4 < f.p.length
            · have h4' : (4 : Int) < (f.p.length : Nat) := by omega
              have HEND : Hid (checkC l = 5) := by
                show checkC l = 5
                have h1 := HEQ.out
                rw [headsC_bad2 (by rw [hob]; exact hd) h4] at h1
                exact checkC_head h0 h5 h1 (by decide)
              clear hd
              go_wp2
              go_ret
              exact ⟨by rw [HEND.out]; rfl, HFA.out.drew⟩
            · have h4' : ¬ (4 : Int) < (f.p.length : Nat) := by omega
              have HEQ2 := hide (HEQ.out.trans (headsC_ok (by rw [hob]; exact hd) h4))
              obtain ⟨wu, ru, hcu, hfu⟩ := (HCA.out.fr (S := nothing) (Fr.refl nothing wa).drew.drew id id id).head f.t (by omega) f.p.length (by omega) (by omega)
              have HCU := hide hcu
              have HFU := hide ((HFA.out.drew.drew).then hfu (fun k hk e => by have := HGE.out.1; omega))
              clear hd hcu hfu
              go_wp2_with fail
              go_region
              go_wp2_with fail
              go_roundw
              case rel => exact ⟨j + 1, F.put f.t f.p.length, by omega, by go_num, by unfold AMap.put; dsimp only; split <;> omega, HCU.out, HFU.out, HEQ2.out, fun f2 hf2 => by
                rw [htk] at hf2
                rcases List.mem_append.1 hf2 with h | h
                · exact HT.out f2 h
                · rw [List.mem_singleton.1 h]; omega⟩
              case measure => simp [intOf]; omega
    · have hje : j = l.length := by omega
      obtain ⟨hCj, hFj, hEqj, hTj⟩ := hR.out
      rw [hje, List.drop_length] at hEqj
      have hh : headsC l (fun _ => none) = (0, F.f) := hEqj
      rw [hje, List.take_length] at hTj
      have hl0 : 0 < l.length := by omega
      have hx : l[0]? = some l[0] := List.getElem?_eq_getElem hl0
      have hr : rs[0]? = some (rs[0]'(by rw [HE.out.1]; omega)) := List.getElem?_eq_getElem _
      generalize rs[0]'(by rw [HE.out.1]; omega) = r at hr
      generalize l[0] = f at hx
      have hok := HE.out.2 0 r f hr hx
      obtain ⟨g, o, hg, dg, p0, p1, p2⟩ := sl_elem3 (s := ⟨la, l.length, lc⟩) HS.out hr
      simp only at hg
      subst hg
      rw [← hFj.cell (p := ⟨g, _, none⟩) dg id] at p0 p1 p2
      have eg : g < wr.heap.size := Nat.lt_of_lt_of_le dg hFj.size
      have hpn := (sl_len hok.p).1
      have hpm := (sl_len hok.p).2
      have hfp : firstP l = f.p.length := by
        cases l with
        | nil => simp at hl0
        | cons a b => simp at hx; subst hx; rfl
      simp only [Nat.zero_mul, Nat.add_zero] at p1
      rw [hpn] at p1
      have l0' : (0 : Int) < (l.length : Nat) := by omega
      have HCj := hide hCj
      have HFj := hide hFj
      have HT := hide hTj
      clear hR hCj hFj hEqj hTj hok hr hx hje hpn p0 p2
      by_cases hf0 : f.p.length = 0
      · have n0 : (((f.p.length : Nat) : Int) != 0) = false := by simp [hf0]
        have hck : checkC l = if (bodiesC F.f l WS.empty).e ≠ 0 then (bodiesC F.f l WS.empty).e else if 16 < (bodiesC F.f l WS.empty).W.n then 4 else 0 := by
          unfold checkC
          rw [if_neg (by omega), hh, if_neg (by simp), if_neg (by rw [hfp, hf0]; simp)]
        have HCK := hide hck
        clear hck hfp hh hf0
        go_wp2_with fail
        clear p1 eg
        go_loopw [82, 11, 12] (fun i _ _ ws => ∃ (k : Nat) (vk : Int) (Wk : WS), k ≤ l.length ∧ i = .int .i64 k ∧ Hid (CI cb fb wb F vk Wk ws ∧ Fr nothing w ws ∧ bodiesC F.f l WS.empty = bodiesC F.f (l.drop k) Wk ∧ Wk.n + fnsN (l.drop k) ≤ 50000)) (fun i _ _ _ => l.length - (intOf i).toNat)
        case atStart => exact ⟨0, 0, WS.empty, Nat.zero_le _, rfl, HCj.out, HFj.out, rfl, by show 0 + _ ≤ _; rw [List.drop_zero]; omega⟩
        case round =>
          obtain ⟨k, vk, Wk, hk, rfl, hR⟩ := hrel
          by_cases hkl : k < l.length
          · have hx : l[k]? = some l[k] := List.getElem?_eq_getElem hkl
            have hr : rs[k]? = some (rs[k]'(by rw [HE.out.1]; omega)) := List.getElem?_eq_getElem _
            have hxm : l[k] ∈ l := List.getElem_mem hkl
            have hdr : l.drop k = l[k] :: l.drop (k + 1) := List.drop_eq_getElem_cons hkl
            generalize rs[k]'(by rw [HE.out.1]; omega) = r at hr
            generalize l[k] = f at hx hxm hdr
            have hok := HE.out.2 k r f hr hx
            obtain ⟨g, o, hg, dg, p0, p1, p2⟩ := sl_elem3 (s := ⟨_, l.length, lc⟩) HS.out hr
            simp only at hg
            injection hg with hg
            injection hg with hg1 hg2 hg3
            subst hg1
            subst hg2
            obtain ⟨hCk, hFk, hEqk, hNk⟩ := hR.out
            rw [← hFk.cell (p := ⟨_, _, none⟩) dg id] at p0 p1 p2
            have eg := Nat.lt_of_lt_of_le dg hFk.size
            rw [hdr, bodiesC] at hEqk
            have hNk' : Wk.n + (f.p.length + stsN f.b) + fnsN (l.drop (k + 1)) ≤ 50000 := by
              rw [hdr] at hNk; unfold fnsN at hNk ⊢; simp only [List.map_cons, List.sum_cons] at hNk; omega
            obtain ⟨rt, ⟨pa, pn, pc⟩, rb⟩ := r
            obtain ⟨rfl, hp, hpP, ⟨rss, hb1, hb2⟩, hbP⟩ := hok
            simp only at hp hpP hb1 hbP p0 p1 p2
            obtain ⟨hpn, hpm⟩ := sl_len hp
            simp only at hpn
            subst hpn
            have h4 : f.p.length ≤ 4 := HT.out f hxm
            have hFA : Fr nothing wr (wr.alloc (fo ⟨f.t, ⟨pa, f.p.length, pc⟩, rb⟩)) := (Fr.refl _ _).alloc _
            obtain ⟨y0, y1, y2, yl⟩ := fo_cells (Fr.refl nothing (wr.alloc (fo ⟨f.t, ⟨pa, f.p.length, pc⟩, rb⟩))) id
            have HCA := hide (hCk.fr hFA id id id)
            have HFA := hide (hFk.trans hFA)
            have hne : ¬ wr.heap.size = cb := by have := hCk.lt; omega
            generalize hwa : wr.alloc (fo ⟨f.t, ⟨pa, f.p.length, pc⟩, rb⟩) = wa at *
            have hFV : Fr (fun k => k = cb) wa (wa.setCell ⟨cb, 1, none⟩ (.int .i64 f.p.length)) := (Fr.refl (fun k => k = cb) wa).setCell (p := ⟨cb, 1, none⟩) (.inl rfl) _
            have HCV := hide (HCA.out.vars f.p.length)
            have hFV2 : Fr nothing w (wa.setCell ⟨cb, 1, none⟩ (.int .i64 f.p.length)) := HFA.out.then hFV (fun k hk e => by have := HGE.out.2.2; omega)
            have v1 : (wa.setCell ⟨cb, 1, none⟩ (.int .i64 f.p.length)).cell? ⟨wr.heap.size, 1, none⟩ = some (.slice pa f.p.length pc) := (hFV.cell (p := ⟨wr.heap.size, 1, none⟩) yl hne).trans y1
            have v2 : (wa.setCell ⟨cb, 1, none⟩ (.int .i64 f.p.length)).cell? ⟨wr.heap.size, 2, none⟩ = some (.slice rb.a rb.n rb.c) := (hFV.cell (p := ⟨wr.heap.size, 2, none⟩) yl hne).trans y2
            have hge := HGE.out
            have hlow : ∀ b, b < w.heap.size → ¬ cw cb wb b := by rintro b hb (e | e) <;> omega
            have HIH := hide (cstmts_any f.b (hSh f hxm).b cb fb wb F f.p.length f.p ⟨pa, f.p.length, pc⟩ Wk rb rss _ HCV.out (hb1.fr hFV2 (fun _ _ => id)) (fun b hb => hlow b (hbP b hb)) ⟨hb2.1, fun i r x hr hx => st_stays _ _ _ _ _ _ _ (hb2.2 i r x hr hx) hFV2 (fun _ _ => id) (fun b hb => hlow b hb)⟩ (hp.fr hFV2 (fun _ _ => id)) (fun b hb => hlow b (hpP b hb)) (by omega) (by omega) (by omega) (by omega))
            have hle := stsC_le F.f f.b f.p f.p.length Wk
            generalize hq : stsC F.f f.b f.p f.p.length Wk = q at HIH hEqk hle
            obtain ⟨qe, qn, qv, qW⟩ := q
            simp only at HIH hle hEqk
            have c1 := HCA.out.c1
            have f1 := HCA.out.f1
            have cl := HCA.out.lt
            have HEQ := hide hEqk
            have HFV2 := hide hFV2
            have HFT := hide (fun w' (hf : Fr (cw cb wb) (wa.setCell ⟨cb, 1, none⟩ (.int .i64 f.p.length)) w') => hFV2.then hf (fun k hk e => by rcases e with e | e <;> omega))
            clear hR hCk hFk hEqk hNk hFA hp hpP hb1 hb2 hbP hr hx hq hlow hge hFV hFV2
            by_cases hq0 : qe = 0
            · subst hq0
              go_wp2_with (go_at_call 28; refine HIH.out.mono ?_; rintro e w7 ⟨rfl, hf, hc⟩; have HC7 := hide (hc rfl); have HF7 := hide (HFT.out _ hf); clear hf hc)
              go_roundw
              case rel => exact ⟨k + 1, qv, qW, by omega, by go_num, HC7.out, HF7.out, HEQ.out, by omega⟩
              case measure => simp [intOf]; omega
            · have hq2 := ne_bne hq0
              have HEND : Hid (checkC l = qe) := by
                show checkC l = qe
                rw [HCK.out, HEQ.out, or_bad hq0, if_pos hq0]
              go_wp2_with (go_at_call 28; refine HIH.out.mono ?_; rintro e w7 ⟨rfl, hf, hc⟩; have HF7 := hide (HFT.out _ hf); clear hf hc)
              go_ret
              exact ⟨by rw [HEND.out]; rfl, HF7.out⟩
          · have hke : k = l.length := by omega
            obtain ⟨hCk, hFk, hEqk, hNk⟩ := hR.out
            rw [hke, List.drop_length, bodiesC] at hEqk
            obtain ⟨A, a1, a2, a3⟩ := hCk.wm
            have hln := a1.len 3
            have c2 := hCk.c2
            have cl := hCk.lt
            have HFk := hide hFk
            have hnW : Wk.n ≤ 50000 := by omega
            rw [a3] at hln
            clear hR hCk hFk hNk a1 a2 a3 hke
            by_cases h16 : 16 < Wk.n
            · have h16' : (16 : Int) < (Wk.n : Nat) := by omega
              have HEND : Hid (checkC l = 4) := by
                show checkC l = 4
                rw [HCK.out, hEqk, if_neg (by simp), if_pos h16]
              clear hEqk
              go_wp2
              go_ret
              exact ⟨by rw [HEND.out]; rfl, HFk.out⟩
            · have h16' : ¬ (16 : Int) < (Wk.n : Nat) := by omega
              have HEND : Hid (checkC l = 0) := by
                show checkC l = 0
                rw [HCK.out, hEqk, if_neg (by simp), if_neg h16]
              clear hEqk
              go_wp2
              go_ret
              exact ⟨by rw [HEND.out]; rfl, HFk.out⟩
      · have n0 : (((f.p.length : Nat) : Int) != 0) = true := by simpa using hf0
        have n1 : ¬ ((f.p.length : Nat) : Int) = 0 := by omega
        have HCK : Hid (checkC l = 10) := by
          show checkC l = 10
          unfold checkC
          rw [if_neg (by omega), hh, if_neg (by simp), if_pos (by rw [hfp]; exact hf0)]
        clear hfp hh hf0
        go_wp2
        go_ret
        exact ⟨by rw [HCK.out]; rfl, HFj.out⟩
end Go.Proofs.YtkmdamljhagogaaDoor
end
section
/- Package code: a function. -/
set_option maxHeartbeats 0
set_option maxRecDepth 100000
namespace Go.Proofs.YtkmdamljhagogaaDoor
open Go Go.RowKit
def endS (G : Bs → Int) (f : Fn) (ws : List Bs) : Ks := { v := (fnS G f ws).v, hi := highsK f.b, ins := fnI G f ws, E := parE f.p 0 (fun _ => 0), nm := f.p, ws := (fnS G f ws).ws }
/-- A writer that has written nothing. -/
structure Fresh (s : Ks) (ws : List Bs) : Prop where
  v : s.v = 0
  h : s.hi = 0
  i : s.ins = []
  E : s.E = fun _ => 0
  n : s.nm = []
  w : s.ws = ws
theorem endS_eq (G : Bs → Int) (f : Fn) (ws : List Bs) {s : Ks} (h : s = { v := f.p.length, hi := 0, ins := [], E := parE f.p 0 (fun _ => 0), nm := f.p, ws := ws }) :
    endS G f ws = { finS G s.E s.nm s f.b with ins := ((finS G s.E s.nm s f.b).ins ++ [⟨1, 0, 0⟩]) ++ [⟨18, 0, 0⟩] } := by
  subst h
  unfold endS fnI fnS finS
  simp
def FP (c : Wk) (G : Bs → Int) (T : Nat → Prop) (f : Fn) (ws : List Bs) (w : World) (e : Ending) (w' : World) : Prop :=
  Fr T w w' ∧ ((fnMuch G f ws = true ∧ e = .returned (.tuple #[.agg #[.int .i64 0, .int .i64 0, .slice none 0 0], .int .i64 4])) ∨
    (fnMuch G f ws = false ∧ ∃ sl : Slc, e = .returned (.tuple #[.agg #[.int .i64 (f.p.length : Nat), .int .i64 ((fnS G f ws).v : Nat), .slice sl.a sl.n sl.c], .int .i64 0]) ∧ w'.cell? ⟨c.wb, 5, none⟩ = some sl.v ∧ KP c G T w (endS G f ws) w'))
theorem cd_cells {w w' : World} {u0 u1 u2 : Value} {S : Nat → Prop} (hf : Fr S (w.alloc (.cells #[u0, u1, u2] 40)) w') (hs : ¬ S w.heap.size) : w'.cell? ⟨w.heap.size, 0, none⟩ = some u0 ∧ w'.cell? ⟨w.heap.size, 1, none⟩ = some u1 ∧ w'.cell? ⟨w.heap.size, 2, none⟩ = some u2 ∧ w.heap.size < w'.heap.size ∧ ∀ j, w'.frozen? ⟨w.heap.size, j, none⟩ = false := by
  have hn := made_cells hf hs
  exact ⟨hn.1 0, hn.1 1, hn.1 2, hn.2.2, hn.2.1⟩
theorem wfunction_any (f : Fn) (c : Wk) (G : Bs → Int) (T : Nat → Prop) (s : Ks) (ws : List Bs) (w : World) (hK : KI c G T s w) (hs : Fresh s ws) (r : RawF) (hok : FnOk w (ap T w) r f) (hSh : FnSh f) (hKd : stsKd f.b) (hU : stsU (fun _ _ => True) f.b f.p) (hp4 : f.p.length ≤ 4) (hN : stsN f.b ≤ 50000) (hW : ws.length + stsN f.b ≤ 100000) :
    Calls Tryd.prog 30 #[.pointer (some ⟨c.wb, 0, none⟩), gv r] w (FP c G T f ws w) := by
  obtain ⟨rt, ⟨pa, pn, pc⟩, rb⟩ := r
  obtain ⟨rfl, hp, hpP, ⟨rss, hb1, hb2⟩, hbP⟩ := hok
  simp only at hp hpP hb1 hbP
  obtain ⟨hpn, hpm⟩ := sl_len hp
  simp only at hpn
  subst hpn
  have hpl : f.p.length ≤ 9223372036854775807 := by omega
  have hF2 : Fr nothing w ((w.alloc (fo ⟨f.t, ⟨pa, f.p.length, pc⟩, rb⟩)).alloc (.cells #[.int .i64 0, .int .i64 0, .slice none 0 0] 40)) := ((Fr.refl _ _).alloc _).alloc _
  obtain ⟨y0, y1, y2, yl⟩ := fo_cells (((Fr.refl nothing (w.alloc (fo ⟨f.t, ⟨pa, f.p.length, pc⟩, rb⟩))).alloc (.cells #[.int .i64 0, .int .i64 0, .slice none 0 0] 40))) id
  have hz := cd_cells (Fr.refl nothing ((w.alloc (fo ⟨f.t, ⟨pa, f.p.length, pc⟩, rb⟩)).alloc (.cells #[.int .i64 0, .int .i64 0, .slice none 0 0] 40))) id
  have s1 : (w.alloc (fo ⟨f.t, ⟨pa, f.p.length, pc⟩, rb⟩)).heap.size = w.heap.size + 1 := by simp
  rw [s1] at hz
  have n0 : ¬ T w.heap.size := fun e => by have := hK.tl _ e; omega
  have n1 : ¬ T (w.heap.size + 1) := fun e => by have := hK.tl _ e; omega
  have HFL := hide hK.fl
  have HF2 := hide hF2
  have HK2 := hide (hK.new hF2)
  have HP := hide hp
  have HPP := hide hpP
  have HB1 := hide hb1
  have HB2 := hide hb2
  have HBP := hide hbP
  have HHS := hide hs
  clear hK hp hpP hb1 hb2 hbP hF2 s1 hs
  go_enter Tryd.func30, Tryd.ntmps30
  go_wp2
  generalize (w.alloc (fo ⟨f.t, ⟨pa, f.p.length, pc⟩, rb⟩)).alloc (.cells #[.int .i64 0, .int .i64 0, .slice none 0 0] 40) = w2 at *
  obtain ⟨z0, z1, z2, zl, zf⟩ := hz
  go_loopw [11, 7] (fun i _ wr => ∃ (j : Nat), j ≤ f.p.length ∧ i = .int .i64 j ∧ Hid (∃ sj T', KI c G T' sj wr ∧ Fr T w2 wr ∧ (∀ k, T' k → T k ∨ w2.heap.size ≤ k) ∧ sj.v = j ∧ sj.hi = 0 ∧ sj.ins = [] ∧ sj.nm = f.p.take j ∧ sj.ws = ws ∧ parE f.p 0 (fun _ => 0) = parE (f.p.drop j) j sj.E)) (fun i _ _ => f.p.length - (intOf i).toNat)
  case atStart => exact ⟨0, Nat.zero_le _, rfl, s, T, HK2.out, Fr.refl _ _, fun k hk => .inl hk, HHS.out.v, HHS.out.h, HHS.out.i, by rw [HHS.out.n]; simp, HHS.out.w, by rw [HHS.out.E]; rfl⟩
  case round =>
    obtain ⟨j, hj, rfl, hR⟩ := hrel
    by_cases hjl : j < f.p.length
    · have hx : f.p[j]? = some f.p[j] := List.getElem?_eq_getElem hjl
      have hxm : f.p[j] ∈ f.p := List.getElem_mem hjl
      have hdr : f.p.drop j = f.p[j] :: f.p.drop (j + 1) := List.drop_eq_getElem_cons hjl
      have htk : f.p.take (j + 1) = f.p.take j ++ [f.p[j]] := (List.take_append_getElem hjl).symm
      generalize f.p[j] = x at hx hxm hdr htk
      obtain ⟨g, o, hg, dg, u0⟩ := sl_elem1 (s := ⟨pa, f.p.length, pc⟩) HP.out hx
      simp only at hg
      subst hg
      obtain ⟨sj, T', hKj, hFj, hTj, e1, e2, e3, e4, e5, e6⟩ := hR.out
      have hgT := (HPP.out g rfl).1
      have u1 : wr.cell? ⟨g, o + j, none⟩ = some (.string (bs x)) := (hFj.cell (p := ⟨g, o + j, none⟩) (Nat.lt_of_lt_of_le dg HF2.out.size) hgT).trans ((HF2.out.cell (p := ⟨g, o + j, none⟩) dg id).trans u0)
      have eg : g < wr.heap.size := Nat.lt_of_lt_of_le (Nat.lt_of_lt_of_le dg HF2.out.size) hFj.size
      have HLET := hide (wlet_any c G T' sj wr hKj x (hSh.p x hxm) (by omega))
      have HNEXT := hide (fun w2' (h : KP c G T' wr { sj with v := sj.v + 1, E := upd sj.E x sj.v, nm := sj.nm ++ [x] } w2') => h.after hFj hTj)
      have HE := hide (show sj.v = j ∧ sj.hi = 0 ∧ sj.ins = [] ∧ sj.nm ++ [x] = f.p.take (j + 1) ∧ sj.ws = ws ∧ parE f.p 0 (fun _ => 0) = parE (f.p.drop (j + 1)) (j + 1) (upd sj.E x sj.v) from ⟨e1, e2, e3, by rw [e4, htk], e5, by rw [e6, hdr, parE, e1]⟩)
      clear hR hKj hFj hTj e1 e2 e3 e4 e5 e6 hx u0
      go_wp2_with (go_at_call 42; refine HLET.out.mono ?_; rintro e w3 ⟨rfl, hk3⟩; have HK3 := hide (HNEXT.out _ hk3); clear hk3)
      go_roundw
      case rel =>
        obtain ⟨T2, k1, k2, k3⟩ := HK3.out
        obtain ⟨e1, e2, e3, e4, e5, e6⟩ := HE.out
        exact ⟨j + 1, by omega, by go_num, _, T2, k1, k2, k3, by simp only; omega, e2, e3, e4, e5, e6⟩
      case measure => simp [intOf]; omega
    · have hje : j = f.p.length := by omega
      obtain ⟨sj, T', hKj, hFj, hTj, e1, e2, e3, e4, e5, e6⟩ := hR.out
      rw [hje] at e1 e4 e6
      rw [List.take_length] at e4
      rw [List.drop_length, parE] at e6
      have hsj : sj = { v := f.p.length, hi := 0, ins := [], E := parE f.p 0 (fun _ => 0), nm := f.p, ws := ws } := by
        rw [e6, ← e1, ← e2, ← e3, ← e4, ← e5]
      have HSJ := hide hsj
      clear e1 e2 e3 e4 e5 e6 hR hje
      obtain ⟨F2, N2, ⟨nb2, lb2⟩, q2⟩ := nextT hFj hTj ((HF2.out.mono (fun _ _ e => e.elim)) : Fr T w w2) (fun k hk => .inl hk) n0 (by omega)
      have nc2 : ¬ T' (w.heap.size + 1) := fun e => (hTj _ e).elim n1 (fun h => by omega)
      have x2 : wr.cell? ⟨w.heap.size, 2, none⟩ = some (.slice rb.a rb.n rb.c) := (q2 2).trans y2
      have lc2 := Nat.lt_of_lt_of_le zl hFj.size
      have x12 := (q2 1).trans y1
      have d02 := (hFj.cell (p := ⟨w.heap.size + 1, 0, none⟩) zl n1).trans z0
      have d12 := (hFj.cell (p := ⟨w.heap.size + 1, 1, none⟩) zl n1).trans z1
      have d22 := (hFj.cell (p := ⟨w.heap.size + 1, 2, none⟩) zl n1).trans z2
      have e02 := (hFj.frozen (p := ⟨w.heap.size + 1, 0, none⟩) zl n1).trans (zf 0)
      have e12 := (hFj.frozen (p := ⟨w.heap.size + 1, 1, none⟩) zl n1).trans (zf 1)
      have e22 := (hFj.frozen (p := ⟨w.heap.size + 1, 2, none⟩) zl n1).trans (zf 2)
      have hle := stsK_le G f.b (parE f.p 0 (fun _ => 0)) f.p.length ws 0
      have li : (finS G sj.E sj.nm sj f.b).ins.length ≤ 2 * stsN f.b := by
        rw [hsj]; unfold finS; simp only [List.nil_append, List.length_nil]; exact hle.i
      have hend := endS_eq G f ws hsj
      have HST := hide (stmts_kp hKj F2 N2 (wstmts_all f.b hSh.b hKd) HB1.out HBP.out HB2.out (by rw [hsj]; exact hU) (by rw [hsj]; simp only [List.length_nil]; omega) (by rw [hsj]; exact hW) (by rw [hsj]; simp only; omega))
      obtain ⟨sF, hsF⟩ : ∃ sF : Ks, sF = finS G sj.E sj.nm sj f.b := ⟨_, rfl⟩
      rw [← hsF] at HST li hend
      obtain ⟨sG, hsG⟩ : ∃ sG : Ks, sG = { sF with ins := sF.ins ++ [⟨1, 0, 0⟩] } := ⟨_, rfl⟩
      have lg : sG.ins.length ≤ 2 * stsN f.b + 1 := by rw [hsG]; simp only [List.length_append, List.length_singleton]; omega
      have hend2 : endS G f ws = { sG with ins := sG.ins ++ [⟨18, 0, 0⟩] } := by rw [hend, hsG]
      have HP1 := hide (fun T3 w3 (h : KI c G T3 sF w3) => put_any c G T3 sF w3 h 1 0 (by omega))
      have HP2 := hide (fun T3 w3 (h : KI c G T3 sG w3) => put_any c G T3 sG w3 h 18 0 (by omega))
      rw [← hend2] at HP2
      have HSG := hide hsG
      have HFR := hide F2
      have HNR := hide N2
      clear hKj hFj hTj q2 hsj hsF hsG hend hend2 F2 N2 hle HK2
      have il0 : (0 : Int) ≤ ((endS G f ws).ins.length : Nat) := by omega
      by_cases h200 : 200 < (endS G f ws).ins.length
      · have i200 : (200 : Int) < ((endS G f ws).ins.length : Nat) := by omega
        have hmuch : fnMuch G f ws = true := by unfold fnMuch; rw [Bool.or_eq_true, decide_eq_true_eq, decide_eq_true_eq]; exact .inl h200
        go_wp2_with (first
          | (go_at_call 44; first
            | (refine (HP2.out T4 w4 HK4.out).mono ?_; rintro e w5 ⟨rfl, T5, K5, f5, t5⟩; obtain ⟨F5, N5, ⟨nb5, lb5⟩, q5⟩ := nextT f5 t5 HF4.out HT4.out nb4 lb4; have x15 := (q5 1).trans x14; have d05 := (f5.cell (p := ⟨w.heap.size + 1, 0, none⟩) lc4 nc4).trans d04; have d15 := (f5.cell (p := ⟨w.heap.size + 1, 1, none⟩) lc4 nc4).trans d14; have d25 := (f5.cell (p := ⟨w.heap.size + 1, 2, none⟩) lc4 nc4).trans d24; have e05 := (f5.frozen (p := ⟨w.heap.size + 1, 0, none⟩) lc4 nc4).trans e04; have e15 := (f5.frozen (p := ⟨w.heap.size + 1, 1, none⟩) lc4 nc4).trans e14; have e25 := (f5.frozen (p := ⟨w.heap.size + 1, 2, none⟩) lc4 nc4).trans e24; have lc5 := Nat.lt_of_lt_of_le lc4 f5.size; have nc5 : ¬ T5 (w.heap.size + 1) := (fun e => (t5 _ e).elim nc4 (fun h => by omega)); obtain ⟨ia, ic, h55, own5, _⟩ := K5.row2; have c45 := K5.c4; have c35 := K5.c3; have wl5 := K5.wl; have HK5 := hide K5; have HF5 := hide F5; have HT5 := hide N5; clear K5 F5 N5 f5 t5 q5 own5)
            | (refine (HP1.out T3 w3 HK3.out).mono ?_; rintro e w4 ⟨rfl, T4, K4, f4, t4⟩; obtain ⟨F4, N4, ⟨nb4, lb4⟩, q4⟩ := nextT f4 t4 HF3.out HT3.out nb3 lb3; have x14 := (q4 1).trans x13; have d04 := (f4.cell (p := ⟨w.heap.size + 1, 0, none⟩) lc3 nc3).trans d03; have d14 := (f4.cell (p := ⟨w.heap.size + 1, 1, none⟩) lc3 nc3).trans d13; have d24 := (f4.cell (p := ⟨w.heap.size + 1, 2, none⟩) lc3 nc3).trans d23; have e04 := (f4.frozen (p := ⟨w.heap.size + 1, 0, none⟩) lc3 nc3).trans e03; have e14 := (f4.frozen (p := ⟨w.heap.size + 1, 1, none⟩) lc3 nc3).trans e13; have e24 := (f4.frozen (p := ⟨w.heap.size + 1, 2, none⟩) lc3 nc3).trans e23; have lc4 := Nat.lt_of_lt_of_le lc3 f4.size; have nc4 : ¬ T4 (w.heap.size + 1) := (fun e => (t4 _ e).elim nc3 (fun h => by omega)); have HK4 := hide (HSG.out ▸ K4 : KI c G T4 sG w4); have HF4 := hide F4; have HT4 := hide N4; clear K4 F4 N4 f4 t4 q4))
          | (go_at_call 43; refine HST.out.mono ?_; rintro e w3 ⟨rfl, T3, K3, f3, t3⟩; obtain ⟨F3, N3, ⟨nb3, lb3⟩, q3⟩ := nextT f3 t3 HFR.out HNR.out nb2 lb2; have x13 := (q3 1).trans x12; have d03 := (f3.cell (p := ⟨w.heap.size + 1, 0, none⟩) lc2 nc2).trans d02; have d13 := (f3.cell (p := ⟨w.heap.size + 1, 1, none⟩) lc2 nc2).trans d12; have d23 := (f3.cell (p := ⟨w.heap.size + 1, 2, none⟩) lc2 nc2).trans d22; have e03 := (f3.frozen (p := ⟨w.heap.size + 1, 0, none⟩) lc2 nc2).trans e02; have e13 := (f3.frozen (p := ⟨w.heap.size + 1, 1, none⟩) lc2 nc2).trans e12; have e23 := (f3.frozen (p := ⟨w.heap.size + 1, 2, none⟩) lc2 nc2).trans e22; have lc3 := Nat.lt_of_lt_of_le lc2 f3.size; have nc3 : ¬ T3 (w.heap.size + 1) := (fun e => (t3 _ e).elim nc2 (fun h => by omega)); have HK3 := hide K3; have HF3 := hide F3; have HT3 := hide N3; clear K3 F3 N3 f3 t3 q3))
        obtain ⟨w6, hw6, g0, g1, g2, hF6⟩ := set3 (.int .i64 0) (.int .i64 0) (.slice none 0 0) d05 d15 d25
        rw [← hw6]
        have HF6 := hide (HF5.out.then hF6 (fun k hk e => by omega))
        clear hw6 hF6
        exact bodyPost_ret (v := .tuple #[.agg #[.int .i64 0, .int .i64 0, .slice none 0 0], .int .i64 4]) (by simp [results, Tryd.results30, go_sem, g0, g1, g2]) rfl ⟨HF6.out, .inl ⟨hmuch, rfl⟩⟩
      · have i200 : ¬ (200 : Int) < ((endS G f ws).ins.length : Nat) := by omega
        by_cases h16 : 16 < (endS G f ws).hi
        · have i16 : (16 : Int) < ((endS G f ws).hi : Nat) := by omega
          have hmuch : fnMuch G f ws = true := by unfold fnMuch; rw [Bool.or_eq_true, decide_eq_true_eq, decide_eq_true_eq]; exact .inr h16
          go_wp2_with (first
            | (go_at_call 44; first
              | (refine (HP2.out T4 w4 HK4.out).mono ?_; rintro e w5 ⟨rfl, T5, K5, f5, t5⟩; obtain ⟨F5, N5, ⟨nb5, lb5⟩, q5⟩ := nextT f5 t5 HF4.out HT4.out nb4 lb4; have x15 := (q5 1).trans x14; have d05 := (f5.cell (p := ⟨w.heap.size + 1, 0, none⟩) lc4 nc4).trans d04; have d15 := (f5.cell (p := ⟨w.heap.size + 1, 1, none⟩) lc4 nc4).trans d14; have d25 := (f5.cell (p := ⟨w.heap.size + 1, 2, none⟩) lc4 nc4).trans d24; have e05 := (f5.frozen (p := ⟨w.heap.size + 1, 0, none⟩) lc4 nc4).trans e04; have e15 := (f5.frozen (p := ⟨w.heap.size + 1, 1, none⟩) lc4 nc4).trans e14; have e25 := (f5.frozen (p := ⟨w.heap.size + 1, 2, none⟩) lc4 nc4).trans e24; have lc5 := Nat.lt_of_lt_of_le lc4 f5.size; have nc5 : ¬ T5 (w.heap.size + 1) := (fun e => (t5 _ e).elim nc4 (fun h => by omega)); obtain ⟨ia, ic, h55, own5, _⟩ := K5.row2; have c45 := K5.c4; have c35 := K5.c3; have wl5 := K5.wl; have HK5 := hide K5; have HF5 := hide F5; have HT5 := hide N5; clear K5 F5 N5 f5 t5 q5 own5)
              | (refine (HP1.out T3 w3 HK3.out).mono ?_; rintro e w4 ⟨rfl, T4, K4, f4, t4⟩; obtain ⟨F4, N4, ⟨nb4, lb4⟩, q4⟩ := nextT f4 t4 HF3.out HT3.out nb3 lb3; have x14 := (q4 1).trans x13; have d04 := (f4.cell (p := ⟨w.heap.size + 1, 0, none⟩) lc3 nc3).trans d03; have d14 := (f4.cell (p := ⟨w.heap.size + 1, 1, none⟩) lc3 nc3).trans d13; have d24 := (f4.cell (p := ⟨w.heap.size + 1, 2, none⟩) lc3 nc3).trans d23; have e04 := (f4.frozen (p := ⟨w.heap.size + 1, 0, none⟩) lc3 nc3).trans e03; have e14 := (f4.frozen (p := ⟨w.heap.size + 1, 1, none⟩) lc3 nc3).trans e13; have e24 := (f4.frozen (p := ⟨w.heap.size + 1, 2, none⟩) lc3 nc3).trans e23; have lc4 := Nat.lt_of_lt_of_le lc3 f4.size; have nc4 : ¬ T4 (w.heap.size + 1) := (fun e => (t4 _ e).elim nc3 (fun h => by omega)); have HK4 := hide (HSG.out ▸ K4 : KI c G T4 sG w4); have HF4 := hide F4; have HT4 := hide N4; clear K4 F4 N4 f4 t4 q4))
            | (go_at_call 43; refine HST.out.mono ?_; rintro e w3 ⟨rfl, T3, K3, f3, t3⟩; obtain ⟨F3, N3, ⟨nb3, lb3⟩, q3⟩ := nextT f3 t3 HFR.out HNR.out nb2 lb2; have x13 := (q3 1).trans x12; have d03 := (f3.cell (p := ⟨w.heap.size + 1, 0, none⟩) lc2 nc2).trans d02; have d13 := (f3.cell (p := ⟨w.heap.size + 1, 1, none⟩) lc2 nc2).trans d12; have d23 := (f3.cell (p := ⟨w.heap.size + 1, 2, none⟩) lc2 nc2).trans d22; have e03 := (f3.frozen (p := ⟨w.heap.size + 1, 0, none⟩) lc2 nc2).trans e02; have e13 := (f3.frozen (p := ⟨w.heap.size + 1, 1, none⟩) lc2 nc2).trans e12; have e23 := (f3.frozen (p := ⟨w.heap.size + 1, 2, none⟩) lc2 nc2).trans e22; have lc3 := Nat.lt_of_lt_of_le lc2 f3.size; have nc3 : ¬ T3 (w.heap.size + 1) := (fun e => (t3 _ e).elim nc2 (fun h => by omega)); have HK3 := hide K3; have HF3 := hide F3; have HT3 := hide N3; clear K3 F3 N3 f3 t3 q3))
          obtain ⟨w6, hw6, g0, g1, g2, hF6⟩ := set3 (.int .i64 0) (.int .i64 0) (.slice none 0 0) d05 d15 d25
          rw [← hw6]
          have HF6 := hide (HF5.out.then hF6 (fun k hk e => by omega))
          clear hw6 hF6
          exact bodyPost_ret (v := .tuple #[.agg #[.int .i64 0, .int .i64 0, .slice none 0 0], .int .i64 4]) (by simp [results, Tryd.results30, go_sem, g0, g1, g2]) rfl ⟨HF6.out, .inl ⟨hmuch, rfl⟩⟩
        · have i16 : ¬ (16 : Int) < ((endS G f ws).hi : Nat) := by omega
          have hmuch : fnMuch G f ws = false := by unfold fnMuch; rw [Bool.or_eq_false_iff, decide_eq_false_iff_not, decide_eq_false_iff_not]; exact ⟨h200, h16⟩
          go_wp2_with (first
            | (go_at_call 44; first
              | (refine (HP2.out T4 w4 HK4.out).mono ?_; rintro e w5 ⟨rfl, T5, K5, f5, t5⟩; obtain ⟨F5, N5, ⟨nb5, lb5⟩, q5⟩ := nextT f5 t5 HF4.out HT4.out nb4 lb4; have x15 := (q5 1).trans x14; have d05 := (f5.cell (p := ⟨w.heap.size + 1, 0, none⟩) lc4 nc4).trans d04; have d15 := (f5.cell (p := ⟨w.heap.size + 1, 1, none⟩) lc4 nc4).trans d14; have d25 := (f5.cell (p := ⟨w.heap.size + 1, 2, none⟩) lc4 nc4).trans d24; have e05 := (f5.frozen (p := ⟨w.heap.size + 1, 0, none⟩) lc4 nc4).trans e04; have e15 := (f5.frozen (p := ⟨w.heap.size + 1, 1, none⟩) lc4 nc4).trans e14; have e25 := (f5.frozen (p := ⟨w.heap.size + 1, 2, none⟩) lc4 nc4).trans e24; have lc5 := Nat.lt_of_lt_of_le lc4 f5.size; have nc5 : ¬ T5 (w.heap.size + 1) := (fun e => (t5 _ e).elim nc4 (fun h => by omega)); obtain ⟨ia, ic, h55, own5, _⟩ := K5.row2; have c45 := K5.c4; have c35 := K5.c3; have wl5 := K5.wl; have HK5 := hide K5; have HF5 := hide F5; have HT5 := hide N5; clear K5 F5 N5 f5 t5 q5 own5)
              | (refine (HP1.out T3 w3 HK3.out).mono ?_; rintro e w4 ⟨rfl, T4, K4, f4, t4⟩; obtain ⟨F4, N4, ⟨nb4, lb4⟩, q4⟩ := nextT f4 t4 HF3.out HT3.out nb3 lb3; have x14 := (q4 1).trans x13; have d04 := (f4.cell (p := ⟨w.heap.size + 1, 0, none⟩) lc3 nc3).trans d03; have d14 := (f4.cell (p := ⟨w.heap.size + 1, 1, none⟩) lc3 nc3).trans d13; have d24 := (f4.cell (p := ⟨w.heap.size + 1, 2, none⟩) lc3 nc3).trans d23; have e04 := (f4.frozen (p := ⟨w.heap.size + 1, 0, none⟩) lc3 nc3).trans e03; have e14 := (f4.frozen (p := ⟨w.heap.size + 1, 1, none⟩) lc3 nc3).trans e13; have e24 := (f4.frozen (p := ⟨w.heap.size + 1, 2, none⟩) lc3 nc3).trans e23; have lc4 := Nat.lt_of_lt_of_le lc3 f4.size; have nc4 : ¬ T4 (w.heap.size + 1) := (fun e => (t4 _ e).elim nc3 (fun h => by omega)); have HK4 := hide (HSG.out ▸ K4 : KI c G T4 sG w4); have HF4 := hide F4; have HT4 := hide N4; clear K4 F4 N4 f4 t4 q4))
            | (go_at_call 43; refine HST.out.mono ?_; rintro e w3 ⟨rfl, T3, K3, f3, t3⟩; obtain ⟨F3, N3, ⟨nb3, lb3⟩, q3⟩ := nextT f3 t3 HFR.out HNR.out nb2 lb2; have x13 := (q3 1).trans x12; have d03 := (f3.cell (p := ⟨w.heap.size + 1, 0, none⟩) lc2 nc2).trans d02; have d13 := (f3.cell (p := ⟨w.heap.size + 1, 1, none⟩) lc2 nc2).trans d12; have d23 := (f3.cell (p := ⟨w.heap.size + 1, 2, none⟩) lc2 nc2).trans d22; have e03 := (f3.frozen (p := ⟨w.heap.size + 1, 0, none⟩) lc2 nc2).trans e02; have e13 := (f3.frozen (p := ⟨w.heap.size + 1, 1, none⟩) lc2 nc2).trans e12; have e23 := (f3.frozen (p := ⟨w.heap.size + 1, 2, none⟩) lc2 nc2).trans e22; have lc3 := Nat.lt_of_lt_of_le lc2 f3.size; have nc3 : ¬ T3 (w.heap.size + 1) := (fun e => (t3 _ e).elim nc2 (fun h => by omega)); have HK3 := hide K3; have HF3 := hide F3; have HT3 := hide N3; clear K3 F3 N3 f3 t3 q3))
          go_region
          obtain ⟨w6, hw6, g0, g1, g2, hF6⟩ := set3 (.int .i64 (f.p.length : Nat)) (.int .i64 ((endS G f ws).v : Nat)) (.slice ia (endS G f ws).ins.length ic) d05 d15 d25
          rw [← hw6]
          have K6 := HK5.out.fr hF6 (fun k hk e => nc5 (e ▸ hk)) (fun e => by have := HFL.out; omega) (fun e => by have := HFL.out; omega) (fun e => by have := HFL.out; omega)
          have wl6 : ¬ c.wb = w.heap.size + 1 := fun e => nc5 (e ▸ HK5.out.tt.1)
          have h56 := (hF6.cell (p := ⟨c.wb, 5, none⟩) wl5 wl6).trans h55
          have HF6 := hide (HF5.out.then hF6 (fun k hk e => by omega))
          have HK6 := hide K6
          clear hw6 hF6 K6
          go_wp2_with fail
          exact bodyPost_ret (v := .tuple #[.agg #[.int .i64 (f.p.length : Nat), .int .i64 ((endS G f ws).v : Nat), .slice ia (endS G f ws).ins.length ic], .int .i64 0]) (by simp [results, Tryd.results30, go_sem, g0, g1, g2]) rfl ⟨HF6.out.drew, .inr ⟨hmuch, ⟨ia, (endS G f ws).ins.length, ic⟩, rfl, h56, ⟨T5, HK6.out.new (Fr.refl nothing w6).drew, HF6.out.drew, HT5.out⟩⟩⟩
end Go.Proofs.YtkmdamljhagogaaDoor
end
