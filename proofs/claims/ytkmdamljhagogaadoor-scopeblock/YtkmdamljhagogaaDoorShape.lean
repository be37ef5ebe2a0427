/- What a right text's functions look like (no program). -/
import Derived.Test.YtkmdamljhagogaaDoorSpec
namespace Go.Proofs.YtkmdamljhagogaaDoor

/-- Right answers are of a shape, and cost no more than was read. -/
def Fine {α : Type} (one : Reader α) (Sh : α → Prop) (c : α → Nat) : Prop := ∀ l, (one l 0).z = 0 → Sh (one l 0).v ∧ c (one l 0).v + (one l 0).l.length ≤ l.length
theorem until_fine {α : Type} {one : Reader α} {Sh : α → Prop} {c : α → Nat} (h : Fine one Sh c) : ∀ n, Fine (until_ one n) (fun v => ∀ x ∈ v, Sh x) (fun v => (v.map c).sum)
  | 0, l => fun _ => ⟨fun x hx => by simp [until_] at hx, by simp [until_]⟩
  | n + 1, l => by
    have h1 := skip_len l
    unfold until_
    rw [if_pos rfl]
    split
    · intro _
      refine ⟨fun x hx => by simp at hx, ?_⟩
      simp
      omega
    · intro hz
      have hz' : (until_ one n (one (skip l) 0).l (one (skip l) 0).z).z = 0 := hz
      by_cases h0 : (one (skip l) 0).z = 0
      · obtain ⟨a1, a2⟩ := h (skip l) h0
        rw [h0] at hz'
        obtain ⟨b1, b2⟩ := until_fine h n _ hz'
        simp only [h0]
        refine ⟨fun x hx => ?_, ?_⟩
        · rcases List.mem_cons.1 hx with rfl | hx
          · exact a1
          · exact b1 x hx
        · simp only [List.map_cons, List.sum_cons] at b2 ⊢
          omega
      · rw [until_keeps n _ _ h0] at hz'
        exact absurd hz' h0
theorem times_fine {α : Type} {one : Reader α} {Sh : α → Prop} {c : α → Nat} (h : Fine one Sh c) (hk : Keeps one) : ∀ n, Fine (times one n) (fun v => ∀ x ∈ v, Sh x) (fun v => (v.map c).sum)
  | 0, l => fun _ => ⟨fun x hx => by simp [times] at hx, by simp [times]⟩
  | n + 1, l => by
    unfold times
    intro hz
    have hz' : (times one n (one l 0).l (one l 0).z).z = 0 := hz
    by_cases h0 : (one l 0).z = 0
    · obtain ⟨a1, a2⟩ := h l h0
      rw [h0] at hz'
      obtain ⟨b1, b2⟩ := times_fine h hk n _ hz'
      simp only [h0]
      refine ⟨fun x hx => ?_, ?_⟩
      · rcases List.mem_cons.1 hx with rfl | hx
        · exact a1
        · exact b1 x hx
      · simp only [List.map_cons, List.sum_cons] at b2 ⊢
        omega
    · rw [times_keeps hk n _ _ h0] at hz'
      exact absurd hz' h0
theorem exsN_sum : ∀ l : List Ex, exsN l = (l.map exN).sum
  | [] => by simp [exsN]
  | x :: l => by rw [exsN, exsN_sum l]; simp
theorem stsN_sum : ∀ l : List St, stsN l = (l.map stN).sum
  | [] => by simp [stsN]
  | x :: l => by rw [stsN, stsN_sum l]; simp
theorem isName_len {w : Bs} (h : isName w = true) : w.length ≤ 1500 := by
  unfold isName at h
  simp only [Bool.and_eq_true, decide_eq_true_eq] at h
  omega
theorem bad_ok {z e : Int} (he : e ≠ 0) : ¬ bad z e = 0 := bad_ne z e he
theorem name_fine : Fine name (fun t => t.length ≤ 1500) (fun _ => 1) := by
  intro l h
  have hl := name_less l h
  refine ⟨?_, by dsimp only; omega⟩
  have h' : (if isName (word l 0).v then (word l 0).z else bad (word l 0).z 7) = 0 := h
  by_cases hn : isName (word l 0).v = true
  · exact isName_len hn
  · rw [if_neg hn] at h'; exact absurd h' (bad_ok (by decide))
theorem wordE_sh {w : Bs} {z : Int} (h : wordEZ w z = 0) : ExSh (wordE w) ∧ exN (wordE w) = 1 := by
  unfold wordEZ at h
  unfold wordE
  split
  · exact ⟨.mk (fun _ => rfl) (by simp) (fun x hx => by simp at hx), by simp [exN, exsN]⟩
  · rename_i hn
    rw [hn] at h
    simp only at h
    by_cases hw : isName w = true
    · exact ⟨.mk (fun _ => rfl) (isName_len hw) (fun x hx => by simp at hx), by simp [exN, exsN]⟩
    · rw [if_neg hw] at h; exact absurd h (bad_ok (by decide))
theorem single_fine {l : Bs} (h : (single l 0).z = 0) : ExSh (single l 0).v ∧ exN (single l 0).v + (single l 0).l.length ≤ l.length := by
  have h1 : wordEZ (word l 0).v (word l 0).z = 0 := h
  have h2 := word_less l (wordEZ_ok h1)
  obtain ⟨a, b⟩ := wordE_sh h1
  refine ⟨a, ?_⟩
  show exN (wordE (word l 0).v) + (word l 0).l.length ≤ _
  omega
theorem quoted_fine {t : Bs} (h : (quoted t 0).z = 0) : ExSh (quoted t 0).v ∧ exN (quoted t 0).v + (quoted t 0).l.length ≤ t.length + 1 := by
  have hs := quoted_small t 0
  revert h hs
  unfold quoted
  split
  · intro h; exact absurd h (bad_ne 0 8 (by decide))
  · rename_i a r hd
    intro h hs
    simp only at h hs ⊢
    by_cases hw : isWord (t.takeWhile noQ) = true
    · have hl : (t.takeWhile noQ).length ≤ 1500 := by
        unfold isWord at hw
        simp only [Bool.and_eq_true, decide_eq_true_eq] at hw
        omega
      exact ⟨.mk (fun _ => rfl) hl (fun x hx => by simp at hx), by simp [exN, exsN]; omega⟩
    · rw [if_neg hw] at h; exact absurd h (bad_ok (by decide))
theorem formOf_kind (w : Bs) : ((formOf w).1 = 1 ∨ (formOf w).1 = 2 ∨ (formOf w).1 = 3 ∨ (formOf w).1 = 9) → (formOf w).2.2 = some 0 := by
  unfold formOf
  repeat' split
  all_goals simp
theorem formed_fine {args : Reader (List Ex)} (hk : Keeps args) (ha : Fine args (fun v => ∀ x ∈ v, ExSh x) (fun v => (v.map exN).sum)) {t : Bs} (h : (formed args t 0).z = 0) : ExSh (formed args t 0).v ∧ exN (formed args t 0).v + (formed args t 0).l.length ≤ t.length + 1 := by
  have hws := word_small t 0
  have h1 : (if manyBad (word t 0).v (args (word t 0).l (headZ (word t 0).v (word t 0).z)).v.length then bad (args (word t 0).l (headZ (word t 0).v (word t 0).z)).z 5 else (args (word t 0).l (headZ (word t 0).v (word t 0).z)).z) = 0 := h
  by_cases hm : manyBad (word t 0).v (args (word t 0).l (headZ (word t 0).v (word t 0).z)).v.length = true
  · rw [if_pos hm] at h1; exact absurd h1 (bad_ok (by decide))
  · rw [if_neg hm] at h1
    by_cases hh : headZ (word t 0).v (word t 0).z = 0
    · rw [hh] at h1 hm
      obtain ⟨a1, a2⟩ := ha _ h1
      show ExSh (headE (word t 0).v (args (word t 0).l (headZ (word t 0).v (word t 0).z)).v) ∧ exN (headE (word t 0).v (args (word t 0).l (headZ (word t 0).v (word t 0).z)).v) + (args (word t 0).l (headZ (word t 0).v (word t 0).z)).l.length ≤ _
      rw [hh]
      refine ⟨.mk (fun hx => ?_) ?_ a1, ?_⟩
      · have := formOf_kind _ hx
        unfold manyBad at hm
        rw [this] at hm
        simpa using hm
      · by_cases hf : (formOf (word t 0).v).2.2 = none
        · rw [if_pos hf]
          unfold headZ at hh
          by_cases hn : isName (word t 0).v = true
          · exact isName_len hn
          · rw [if_pos ⟨hf, by simpa using hn⟩] at hh; exact absurd hh (bad_ok (by decide))
        · rw [if_neg hf]; simp
      · unfold headE
        rw [exN, exsN_sum]
        simp only at a2
        omega
    · rw [hk _ _ hh] at h1; exact absurd h1 hh
theorem expr_fine (N : Nat) : ∀ k, Fine (expr N k) ExSh exN
  | 0, l => fun h => absurd h (bad_ne 0 9 (by decide))
  | k + 1, l => by
    have h := skip_len l
    unfold expr
    rw [if_pos rfl]
    split
    · intro hz
      obtain ⟨a, b⟩ := single_fine hz
      exact ⟨a, Nat.le_trans b (by simp)⟩
    · rename_i c t hs
      rw [hs] at h
      simp at h
      split
      · intro hz; obtain ⟨a, b⟩ := quoted_fine hz; exact ⟨a, by omega⟩
      · split
        · intro hz; obtain ⟨a, b⟩ := formed_fine (until_keeps N) (until_fine (expr_fine N k) N) hz; exact ⟨a, by omega⟩
        · intro hz; obtain ⟨a, b⟩ := single_fine hz; exact ⟨a, by simp at b; omega⟩
theorem optName_fine (k : Nat) : Fine (optName k) (fun t => t.length ≤ 1500) (fun _ => 0) := by
  intro l
  unfold optName
  split
  · intro h; obtain ⟨a, b⟩ := name_fine l h; exact ⟨a, by dsimp only at b ⊢; omega⟩
  · intro _; exact ⟨by simp, by simp⟩
theorem rest_fine {nest : Reader (List St)} (hk : Keeps nest) (hn : Fine nest (fun v => ∀ x ∈ v, StSh x) (fun v => (v.map stN).sum)) (k : Nat) :
    Fine (restP nest k) (fun v => (∀ s ∈ v.1, StSh s) ∧ (∀ s ∈ v.2, StSh s) ∧ (k ≠ 3 → k ≠ 4 → v.1 = []) ∧ (k ≠ 3 → v.2 = [])) (fun v => (v.1.map stN).sum + (v.2.map stN).sum) := by
  intro l
  unfold restP
  split
  · intro hz
    have hz1 : (must 41 (nest (must 40 (nest (must 40 l 0).l (must 40 l 0).z).l (nest (must 40 l 0).l (must 40 l 0).z).z).l (must 40 (nest (must 40 l 0).l (must 40 l 0).z).l (nest (must 40 l 0).l (must 40 l 0).z).z).z).l (nest (must 40 (nest (must 40 l 0).l (must 40 l 0).z).l (nest (must 40 l 0).l (must 40 l 0).z).z).l (must 40 (nest (must 40 l 0).l (must 40 l 0).z).l (nest (must 40 l 0).l (must 40 l 0).z).z).z).z).z = 0 := hz
    simp only
    have s1 := must_small 40 l 0
    generalize must 40 l 0 = m at hz1 s1 ⊢
    by_cases h1 : ¬ (m.z = 0)
    · rw [hk _ _ h1, must_keeps 40 _ _ h1, hk _ _ h1, must_keeps 41 _ _ h1] at hz1; exact absurd hz1 h1
    replace h1 := Decidable.not_not.1 h1
    rw [h1] at hz1 ⊢
    have f1 := hn m.l
    generalize nest m.l 0 = x at hz1 f1 ⊢
    by_cases h2 : ¬ (x.z = 0)
    · rw [must_keeps 40 _ _ h2, hk _ _ h2, must_keeps 41 _ _ h2] at hz1; exact absurd hz1 h2
    replace h2 := Decidable.not_not.1 h2
    rw [h2] at hz1 ⊢
    have s2 := must_small 40 x.l 0
    generalize must 40 x.l 0 = m2 at hz1 s2 ⊢
    by_cases h3 : ¬ (m2.z = 0)
    · rw [hk _ _ h3, must_keeps 41 _ _ h3] at hz1; exact absurd hz1 h3
    replace h3 := Decidable.not_not.1 h3
    rw [h3] at hz1 ⊢
    have f2 := hn m2.l
    generalize nest m2.l 0 = y at hz1 f2 ⊢
    by_cases h4 : ¬ (y.z = 0)
    · rw [must_keeps 41 _ _ h4] at hz1; exact absurd hz1 h4
    replace h4 := Decidable.not_not.1 h4
    rw [h4]
    have s3 := must_small 41 y.l 0
    obtain ⟨a1, a2⟩ := f1 h2
    obtain ⟨b1, b2⟩ := f2 h4
    rename_i k3
    refine ⟨⟨a1, b1, fun h => absurd k3 h, fun h => absurd k3 h⟩, ?_⟩
    simp only at a2 b2
    omega
  · split
    · rename_i k3 k4
      intro hz
      obtain ⟨a1, a2⟩ := hn l hz
      refine ⟨⟨a1, fun s hs => by simp at hs, fun _ h => absurd k4 h, fun _ => rfl⟩, ?_⟩
      simp only [List.map_nil, List.sum_nil] at a2 ⊢
      omega
    · intro hz
      refine ⟨⟨fun s hs => by simp at hs, fun s hs => by simp at hs, fun _ _ => rfl, fun _ => rfl⟩, ?_⟩
      have := must_small 41 l 0
      simpa using this
theorem parts_fine {e : Reader Ex} {nest : Reader (List St)} (ke : Keeps e) (he : Fine e ExSh exN) (hk : Keeps nest) (hn : Fine nest (fun v => ∀ x ∈ v, StSh x) (fun v => (v.map stN).sum)) (k : Nat) {l : Bs} (h : (parts e nest k l 0).z = 0) : StSh (parts e nest k l 0).v ∧ stN (parts e nest k l 0).v + (parts e nest k l 0).l.length ≤ l.length + 1 := by
  have hz : (restP nest k (times e (argsOf k) (optName k l 0).l (optName k l 0).z).l (times e (argsOf k) (optName k l 0).l (optName k l 0).z).z).z = 0 := h
  clear h
  unfold parts
  simp only
  have f1 := optName_fine k l
  generalize optName k l 0 = n at hz f1 ⊢
  by_cases h1 : ¬ (n.z = 0)
  · rw [times_keeps ke _ _ _ h1, rest_keeps hk k _ _ h1] at hz; exact absurd hz h1
  replace h1 := Decidable.not_not.1 h1
  rw [h1] at hz ⊢
  have f2 := times_fine he ke (argsOf k) n.l
  generalize times e (argsOf k) n.l 0 = a at hz f2 ⊢
  by_cases h2 : ¬ (a.z = 0)
  · rw [rest_keeps hk k _ _ h2] at hz; exact absurd hz h2
  replace h2 := Decidable.not_not.1 h2
  rw [h2] at hz ⊢
  have f3 := rest_fine hk hn k a.l
  generalize restP nest k a.l 0 = r at hz f3 ⊢
  obtain ⟨a1, a2⟩ := f1 h1
  obtain ⟨b1, b2⟩ := f2 h2
  obtain ⟨⟨c1, c2, c3, c4⟩, c5⟩ := f3 hz
  refine ⟨.mk (fun x y => c3 (by omega) (by omega)) (fun x => c4 (by omega)) a1 b1 c1 c2, ?_⟩
  rw [stN, exsN_sum, stsN_sum, stsN_sum]
  simp only at a2 b2 c5
  omega
theorem stmt_fine (N : Nat) : ∀ k, Fine (stmt N k) StSh stN
  | 0, l => fun h => absurd h (bad_ne 0 9 (by decide))
  | k + 1, l => by
    unfold stmt
    rw [if_pos rfl]
    intro h
    have hz : (parts (expr N k) (until_ (stmt N k) N) (kindOf (word (must 40 l 0).l (must 40 l 0).z).v) (word (must 40 l 0).l (must 40 l 0).z).l (if kindOf (word (must 40 l 0).l (must 40 l 0).z).v = 0 then bad (word (must 40 l 0).l (must 40 l 0).z).z 1 else (word (must 40 l 0).l (must 40 l 0).z).z)).z = 0 := h
    unfold stmtP
    simp only
    clear h
    have s1 := must_less 40 l
    generalize must 40 l 0 = m at hz s1 ⊢
    have kp := parts_keeps (expr_keeps N k) (until_keeps (one := stmt N k) N)
    by_cases h1 : ¬ (m.z = 0)
    · have hw := word_keeps m.l _ h1
      have hb : (if kindOf (word m.l m.z).v = 0 then bad (word m.l m.z).z 1 else (word m.l m.z).z) = m.z := by
        rw [hw]
        split
        · exact bad_of h1
        · rfl
      rw [hb, kp _ _ _ h1] at hz
      exact absurd hz h1
    replace h1 := Decidable.not_not.1 h1
    rw [h1] at hz ⊢
    have s2 := word_small m.l 0
    generalize word m.l 0 = w at hz s2 ⊢
    by_cases h2 : ¬ ((if kindOf w.v = 0 then bad w.z 1 else w.z) = 0)
    · rw [kp _ _ _ h2] at hz; exact absurd hz h2
    replace h2 := Decidable.not_not.1 h2
    rw [h2] at hz ⊢
    obtain ⟨a1, a2⟩ := parts_fine (expr_keeps N k) (expr_fine N k) (until_keeps N) (until_fine (stmt_fine N k) N) _ hz
    have := s1 h1
    exact ⟨a1, by omega⟩
theorem fn_fine (N : Nat) : Fine (fn N) FnSh (fun f => f.p.length + stsN f.b) := by
  intro l h
  have hz : (until_ (stmt N 11) N (until_ name N (must 40 (name (must 40 l 0).l (must 40 l 0).z).l (name (must 40 l 0).l (must 40 l 0).z).z).l (must 40 (name (must 40 l 0).l (must 40 l 0).z).l (name (must 40 l 0).l (must 40 l 0).z).z).z).l (until_ name N (must 40 (name (must 40 l 0).l (must 40 l 0).z).l (name (must 40 l 0).l (must 40 l 0).z).z).l (must 40 (name (must 40 l 0).l (must 40 l 0).z).l (name (must 40 l 0).l (must 40 l 0).z).z).z).z).z = 0 := h
  clear h
  unfold fn
  simp only
  have s1 := must_small 40 l 0
  generalize must 40 l 0 = m at hz s1 ⊢
  have K := until_keeps (one := stmt N 11) N
  have K2 := until_keeps (one := name) N
  by_cases h1 : ¬ (m.z = 0)
  · rw [name_keeps _ _ h1, must_keeps 40 _ _ h1, K2 _ _ h1, K _ _ h1] at hz; exact absurd hz h1
  replace h1 := Decidable.not_not.1 h1
  rw [h1] at hz ⊢
  have f1 := name_fine m.l
  generalize name m.l 0 = t at hz f1 ⊢
  by_cases h2 : ¬ (t.z = 0)
  · rw [must_keeps 40 _ _ h2, K2 _ _ h2, K _ _ h2] at hz; exact absurd hz h2
  replace h2 := Decidable.not_not.1 h2
  rw [h2] at hz ⊢
  have s2 := must_small 40 t.l 0
  generalize must 40 t.l 0 = b at hz s2 ⊢
  by_cases h3 : ¬ (b.z = 0)
  · rw [K2 _ _ h3, K _ _ h3] at hz; exact absurd hz h3
  replace h3 := Decidable.not_not.1 h3
  rw [h3] at hz ⊢
  have f2 := until_fine name_fine N b.l
  generalize until_ name N b.l 0 = p at hz f2 ⊢
  by_cases h4 : ¬ (p.z = 0)
  · rw [K _ _ h4] at hz; exact absurd hz h4
  replace h4 := Decidable.not_not.1 h4
  rw [h4] at hz ⊢
  have f3 := until_fine (stmt_fine N 11) N p.l
  generalize until_ (stmt N 11) N p.l 0 = s at hz f3 ⊢
  obtain ⟨a1, a2⟩ := f1 h2
  obtain ⟨b1, b2⟩ := f2 h4
  obtain ⟨c1, c2⟩ := f3 hz
  refine ⟨⟨a1, b1, c1⟩, ?_⟩
  simp only at a2 b2 c2 ⊢
  rw [stsN_sum]
  have : ∀ l : List Bs, (l.map fun _ => 1).sum = l.length := by
    intro l
    induction l with
    | nil => rfl
    | cons x l ih => simp only [List.map_cons, List.sum_cons, List.length_cons, ih]; omega
  have := this p.v
  omega
theorem fns_fine (N : Nat) : ∀ n, Fine (fnsP N n) (fun v => ∀ f ∈ v, FnSh f) fnsN
  | 0, l => fun _ => ⟨fun x hx => by simp [fnsP] at hx, by simp [fnsP, fnsN]⟩
  | n + 1, l => by
    have hs := skip_len l
    unfold fnsP
    rw [if_pos rfl]
    split
    · intro _; exact ⟨fun x hx => by simp at hx, by simp [fnsN]⟩
    · intro hz
      have hz1 : (fnsP N n (fn N (skip l) 0).l (fn N (skip l) 0).z).z = 0 := hz
      clear hz
      simp only
      have f1 := fn_fine N (skip l)
      generalize fn N (skip l) 0 = r at hz1 f1 ⊢
      by_cases h1 : ¬ (r.z = 0)
      · have : (fnsP N n r.l r.z).z = r.z := by
          cases n with
          | zero => rfl
          | succ n => unfold fnsP; rw [if_neg h1]
        rw [this] at hz1; exact absurd hz1 h1
      replace h1 := Decidable.not_not.1 h1
      rw [h1] at hz1 ⊢
      obtain ⟨a1, a2⟩ := f1 h1
      obtain ⟨b1, b2⟩ := fns_fine N n r.l hz1
      refine ⟨fun f hf => ?_, ?_⟩
      · rcases List.mem_cons.1 hf with rfl | hf
        · exact a1
        · exact b1 f hf
      · unfold fnsN at b2 ⊢
        simp only [List.map_cons, List.sum_cons] at a2 b2 ⊢
        omega
end Go.Proofs.YtkmdamljhagogaaDoor
