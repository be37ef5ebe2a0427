/- Shape; Pt; FAlive; Args6; Laid. -/
import Derived.Deep.Slices
import Derived.Deep.Strs
import Derived.ProofKit
import Derived.Test.YtpemfikdmkmgbaaDoorCards
import Derived.Test.YtpemfikdmkmgbaaDoorTie
import Derived.OpenShut
import Derived.Deep.DeepHandedRow
import Derived.ChangeMaps5
import Derived.SizedLaws
import Derived.Lib.LaidU8
import Derived.Lib.LaidTab
import Derived.LaidLaws
import Derived.Test.YtpemfikdmkmgbaaDoorPartB1
import Derived.Test.YtpemfikdmkmgbaaDoorPartB15
import Derived.Test.YtpemfikdmkmgbaaDoorPartB7
import Derived.Test.YtpemfikdmkmgbaaDoorPartB20
import Derived.Test.YtpemfikdmkmgbaaDoorPartB2
section
/- What a right text's functions look like (no program). -/
namespace Go.Proofs.YtpemfikdmkmgbaaDoor

/-- Right answers are of a shape, and cost no more than was read. -/
def Fine {α : Type} (one : Reader α) (Sh : α → Prop) (c : α → Nat) : Prop := ∀ l, (one l 0).z = 0 → Sh (one l 0).v ∧ c (one l 0).v + (one l 0).l.length ≤ l.length
theorem until_fine {α : Type} {one : Reader α} {Sh : α → Prop} {c : α → Nat} (h : Fine one Sh c) : ∀ n, Fine (until_ one n) (fun v => ∀ x ∈ v, Sh x) (fun v => (v.map c).sum)
  | 0, l => fun _ => ⟨fun x hx => by simp [until_] at hx, by simp [until_]⟩
  | n + 1, l => by
    have h1 := skip_len l
    unfold until_
    rw [if_pos rfl]
    split
    · intro _
      refine ⟨fun x hx => by simp at hx, ?_⟩
      simp
      omega
    · intro hz
      have hz' : (until_ one n (one (skip l) 0).l (one (skip l) 0).z).z = 0 := hz
      by_cases h0 : (one (skip l) 0).z = 0
      · obtain ⟨a1, a2⟩ := h (skip l) h0
        rw [h0] at hz'
        obtain ⟨b1, b2⟩ := until_fine h n _ hz'
        simp only [h0]
        refine ⟨fun x hx => ?_, ?_⟩
        · rcases List.mem_cons.1 hx with rfl | hx
          · exact a1
          · exact b1 x hx
        · simp only [List.map_cons, List.sum_cons] at b2 ⊢
          omega
      · rw [until_keeps n _ _ h0] at hz'
        exact absurd hz' h0
theorem times_fine {α : Type} {one : Reader α} {Sh : α → Prop} {c : α → Nat} (h : Fine one Sh c) (hk : Keeps one) : ∀ n, Fine (times one n) (fun v => ∀ x ∈ v, Sh x) (fun v => (v.map c).sum)
  | 0, l => fun _ => ⟨fun x hx => by simp [times] at hx, by simp [times]⟩
  | n + 1, l => by
    unfold times
    intro hz
    have hz' : (times one n (one l 0).l (one l 0).z).z = 0 := hz
    by_cases h0 : (one l 0).z = 0
    · obtain ⟨a1, a2⟩ := h l h0
      rw [h0] at hz'
      obtain ⟨b1, b2⟩ := times_fine h hk n _ hz'
      simp only [h0]
      refine ⟨fun x hx => ?_, ?_⟩
      · rcases List.mem_cons.1 hx with rfl | hx
        · exact a1
        · exact b1 x hx
      · simp only [List.map_cons, List.sum_cons] at b2 ⊢
        omega
    · rw [times_keeps hk n _ _ h0] at hz'
      exact absurd hz' h0
theorem exsN_sum : ∀ l : List Ex, exsN l = (l.map exN).sum
  | [] => by simp [exsN]
  | x :: l => by rw [exsN, exsN_sum l]; simp
theorem stsN_sum : ∀ l : List St, stsN l = (l.map stN).sum
  | [] => by simp [stsN]
  | x :: l => by rw [stsN, stsN_sum l]; simp
theorem isName_len {w : Bs} (h : isName w = true) : w.length ≤ 1500 := by
  unfold isName at h
  simp only [Bool.and_eq_true, decide_eq_true_eq] at h
  omega
theorem bad_ok {z e : Int} (he : e ≠ 0) : ¬ bad z e = 0 := bad_ne z e he
theorem name_fine : Fine name (fun t => t.length ≤ 1500) (fun _ => 1) := by
  intro l h
  have hl := name_less l h
  refine ⟨?_, by dsimp only; omega⟩
  have h' : (if isName (word l 0).v then (word l 0).z else bad (word l 0).z 7) = 0 := h
  by_cases hn : isName (word l 0).v = true
  · exact isName_len hn
  · rw [if_neg hn] at h'; exact absurd h' (bad_ok (by decide))
theorem wordE_sh {w : Bs} {z : Int} (h : wordEZ w z = 0) : ExSh (wordE w) ∧ exN (wordE w) = 1 := by
  unfold wordEZ at h
  unfold wordE
  split
  · exact ⟨.mk (fun _ => rfl) (by simp) (fun x hx => by simp at hx), by simp [exN, exsN]⟩
  · rename_i hn
    rw [hn] at h
    simp only at h
    by_cases hw : isName w = true
    · exact ⟨.mk (fun _ => rfl) (isName_len hw) (fun x hx => by simp at hx), by simp [exN, exsN]⟩
    · rw [if_neg hw] at h; exact absurd h (bad_ok (by decide))
theorem single_fine {l : Bs} (h : (single l 0).z = 0) : ExSh (single l 0).v ∧ exN (single l 0).v + (single l 0).l.length ≤ l.length := by
  have h1 : wordEZ (word l 0).v (word l 0).z = 0 := h
  have h2 := word_less l (wordEZ_ok h1)
  obtain ⟨a, b⟩ := wordE_sh h1
  refine ⟨a, ?_⟩
  show exN (wordE (word l 0).v) + (word l 0).l.length ≤ _
  omega
theorem quoted_fine {t : Bs} (h : (quoted t 0).z = 0) : ExSh (quoted t 0).v ∧ exN (quoted t 0).v + (quoted t 0).l.length ≤ t.length + 1 := by
  have hs := quoted_small t 0
  revert h hs
  unfold quoted
  split
  · intro h; exact absurd h (bad_ne 0 8 (by decide))
  · rename_i a r hd
    intro h hs
    simp only at h hs ⊢
    by_cases hw : isWord (t.takeWhile noQ) = true
    · have hl : (t.takeWhile noQ).length ≤ 1500 := by
        unfold isWord at hw
        simp only [Bool.and_eq_true, decide_eq_true_eq] at hw
        omega
      exact ⟨.mk (fun _ => rfl) hl (fun x hx => by simp at hx), by simp [exN, exsN]; omega⟩
    · rw [if_neg hw] at h; exact absurd h (bad_ok (by decide))
theorem formOf_kind (w : Bs) : ((formOf w).1 = 1 ∨ (formOf w).1 = 2 ∨ (formOf w).1 = 3 ∨ (formOf w).1 = 9) → (formOf w).2.2 = some 0 := by
  unfold formOf
  repeat' split
  all_goals simp
theorem formed_fine {args : Reader (List Ex)} (hk : Keeps args) (ha : Fine args (fun v => ∀ x ∈ v, ExSh x) (fun v => (v.map exN).sum)) {t : Bs} (h : (formed args t 0).z = 0) : ExSh (formed args t 0).v ∧ exN (formed args t 0).v + (formed args t 0).l.length ≤ t.length + 1 := by
  have hws := word_small t 0
  have h1 : (if manyBad (word t 0).v (args (word t 0).l (headZ (word t 0).v (word t 0).z)).v.length then bad (args (word t 0).l (headZ (word t 0).v (word t 0).z)).z 5 else (args (word t 0).l (headZ (word t 0).v (word t 0).z)).z) = 0 := h
  by_cases hm : manyBad (word t 0).v (args (word t 0).l (headZ (word t 0).v (word t 0).z)).v.length = true
  · rw [if_pos hm] at h1; exact absurd h1 (bad_ok (by decide))
  · rw [if_neg hm] at h1
    by_cases hh : headZ (word t 0).v (word t 0).z = 0
    · rw [hh] at h1 hm
      obtain ⟨a1, a2⟩ := ha _ h1
      show ExSh (headE (word t 0).v (args (word t 0).l (headZ (word t 0).v (word t 0).z)).v) ∧ exN (headE (word t 0).v (args (word t 0).l (headZ (word t 0).v (word t 0).z)).v) + (args (word t 0).l (headZ (word t 0).v (word t 0).z)).l.length ≤ _
      rw [hh]
      refine ⟨.mk (fun hx => ?_) ?_ a1, ?_⟩
      · have := formOf_kind _ hx
        unfold manyBad at hm
        rw [this] at hm
        simpa using hm
      · by_cases hf : (formOf (word t 0).v).2.2 = none
        · rw [if_pos hf]
          unfold headZ at hh
          by_cases hn : isName (word t 0).v = true
          · exact isName_len hn
          · rw [if_pos ⟨hf, by simpa using hn⟩] at hh; exact absurd hh (bad_ok (by decide))
        · rw [if_neg hf]; simp
      · unfold headE
        rw [exN, exsN_sum]
        simp only at a2
        omega
    · rw [hk _ _ hh] at h1; exact absurd h1 hh
theorem expr_fine (N : Nat) : ∀ k, Fine (expr N k) ExSh exN
  | 0, l => fun h => absurd h (bad_ne 0 9 (by decide))
  | k + 1, l => by
    have h := skip_len l
    unfold expr
    rw [if_pos rfl]
    split
    · intro hz
      obtain ⟨a, b⟩ := single_fine hz
      exact ⟨a, Nat.le_trans b (by simp)⟩
    · rename_i c t hs
      rw [hs] at h
      simp at h
      split
      · intro hz; obtain ⟨a, b⟩ := quoted_fine hz; exact ⟨a, by omega⟩
      · split
        · intro hz; obtain ⟨a, b⟩ := formed_fine (until_keeps N) (until_fine (expr_fine N k) N) hz; exact ⟨a, by omega⟩
        · intro hz; obtain ⟨a, b⟩ := single_fine hz; exact ⟨a, by simp at b; omega⟩
theorem optName_fine (k : Nat) : Fine (optName k) (fun t => t.length ≤ 1500) (fun _ => 0) := by
  intro l
  unfold optName
  split
  · intro h; obtain ⟨a, b⟩ := name_fine l h; exact ⟨a, by dsimp only at b ⊢; omega⟩
  · intro _; exact ⟨by simp, by simp⟩
theorem rest_fine {nest : Reader (List St)} (hk : Keeps nest) (hn : Fine nest (fun v => ∀ x ∈ v, StSh x) (fun v => (v.map stN).sum)) (k : Nat) :
    Fine (restP nest k) (fun v => (∀ s ∈ v.1, StSh s) ∧ (∀ s ∈ v.2, StSh s) ∧ (k ≠ 3 → k ≠ 4 → v.1 = []) ∧ (k ≠ 3 → v.2 = [])) (fun v => (v.1.map stN).sum + (v.2.map stN).sum) := by
  intro l
  unfold restP
  split
  · intro hz
    have hz1 : (must 41 (nest (must 40 (nest (must 40 l 0).l (must 40 l 0).z).l (nest (must 40 l 0).l (must 40 l 0).z).z).l (must 40 (nest (must 40 l 0).l (must 40 l 0).z).l (nest (must 40 l 0).l (must 40 l 0).z).z).z).l (nest (must 40 (nest (must 40 l 0).l (must 40 l 0).z).l (nest (must 40 l 0).l (must 40 l 0).z).z).l (must 40 (nest (must 40 l 0).l (must 40 l 0).z).l (nest (must 40 l 0).l (must 40 l 0).z).z).z).z).z = 0 := hz
    simp only
    have s1 := must_small 40 l 0
    generalize must 40 l 0 = m at hz1 s1 ⊢
    by_cases h1 : ¬ (m.z = 0)
    · rw [hk _ _ h1, must_keeps 40 _ _ h1, hk _ _ h1, must_keeps 41 _ _ h1] at hz1; exact absurd hz1 h1
    replace h1 := Decidable.not_not.1 h1
    rw [h1] at hz1 ⊢
    have f1 := hn m.l
    generalize nest m.l 0 = x at hz1 f1 ⊢
    by_cases h2 : ¬ (x.z = 0)
    · rw [must_keeps 40 _ _ h2, hk _ _ h2, must_keeps 41 _ _ h2] at hz1; exact absurd hz1 h2
    replace h2 := Decidable.not_not.1 h2
    rw [h2] at hz1 ⊢
    have s2 := must_small 40 x.l 0
    generalize must 40 x.l 0 = m2 at hz1 s2 ⊢
    by_cases h3 : ¬ (m2.z = 0)
    · rw [hk _ _ h3, must_keeps 41 _ _ h3] at hz1; exact absurd hz1 h3
    replace h3 := Decidable.not_not.1 h3
    rw [h3] at hz1 ⊢
    have f2 := hn m2.l
    generalize nest m2.l 0 = y at hz1 f2 ⊢
    by_cases h4 : ¬ (y.z = 0)
    · rw [must_keeps 41 _ _ h4] at hz1; exact absurd hz1 h4
    replace h4 := Decidable.not_not.1 h4
    rw [h4]
    have s3 := must_small 41 y.l 0
    obtain ⟨a1, a2⟩ := f1 h2
    obtain ⟨b1, b2⟩ := f2 h4
    rename_i k3
    refine ⟨⟨a1, b1, fun h => absurd k3 h, fun h => absurd k3 h⟩, ?_⟩
    simp only at a2 b2
    omega
  · split
    · rename_i k3 k4
      intro hz
      obtain ⟨a1, a2⟩ := hn l hz
      refine ⟨⟨a1, fun s hs => by simp at hs, fun _ h => absurd k4 h, fun _ => rfl⟩, ?_⟩
      simp only [List.map_nil, List.sum_nil] at a2 ⊢
      omega
    · intro hz
      refine ⟨⟨fun s hs => by simp at hs, fun s hs => by simp at hs, fun _ _ => rfl, fun _ => rfl⟩, ?_⟩
      have := must_small 41 l 0
      simpa using this
theorem parts_fine {e : Reader Ex} {nest : Reader (List St)} (ke : Keeps e) (he : Fine e ExSh exN) (hk : Keeps nest) (hn : Fine nest (fun v => ∀ x ∈ v, StSh x) (fun v => (v.map stN).sum)) (k : Nat) {l : Bs} (h : (parts e nest k l 0).z = 0) : StSh (parts e nest k l 0).v ∧ stN (parts e nest k l 0).v + (parts e nest k l 0).l.length ≤ l.length + 1 := by
  have hz : (restP nest k (times e (argsOf k) (optName k l 0).l (optName k l 0).z).l (times e (argsOf k) (optName k l 0).l (optName k l 0).z).z).z = 0 := h
  clear h
  unfold parts
  simp only
  have f1 := optName_fine k l
  generalize optName k l 0 = n at hz f1 ⊢
  by_cases h1 : ¬ (n.z = 0)
  · rw [times_keeps ke _ _ _ h1, rest_keeps hk k _ _ h1] at hz; exact absurd hz h1
  replace h1 := Decidable.not_not.1 h1
  rw [h1] at hz ⊢
  have f2 := times_fine he ke (argsOf k) n.l
  generalize times e (argsOf k) n.l 0 = a at hz f2 ⊢
  by_cases h2 : ¬ (a.z = 0)
  · rw [rest_keeps hk k _ _ h2] at hz; exact absurd hz h2
  replace h2 := Decidable.not_not.1 h2
  rw [h2] at hz ⊢
  have f3 := rest_fine hk hn k a.l
  generalize restP nest k a.l 0 = r at hz f3 ⊢
  obtain ⟨a1, a2⟩ := f1 h1
  obtain ⟨b1, b2⟩ := f2 h2
  obtain ⟨⟨c1, c2, c3, c4⟩, c5⟩ := f3 hz
  refine ⟨.mk (fun x y => c3 (by omega) (by omega)) (fun x => c4 (by omega)) a1 b1 c1 c2, ?_⟩
  rw [stN, exsN_sum, stsN_sum, stsN_sum]
  simp only at a2 b2 c5
  omega
theorem stmt_fine (N : Nat) : ∀ k, Fine (stmt N k) StSh stN
  | 0, l => fun h => absurd h (bad_ne 0 9 (by decide))
  | k + 1, l => by
    unfold stmt
    rw [if_pos rfl]
    intro h
    have hz : (parts (expr N k) (until_ (stmt N k) N) (kindOf (word (must 40 l 0).l (must 40 l 0).z).v) (word (must 40 l 0).l (must 40 l 0).z).l (if kindOf (word (must 40 l 0).l (must 40 l 0).z).v = 0 then bad (word (must 40 l 0).l (must 40 l 0).z).z 1 else (word (must 40 l 0).l (must 40 l 0).z).z)).z = 0 := h
    unfold stmtP
    simp only
    clear h
    have s1 := must_less 40 l
    generalize must 40 l 0 = m at hz s1 ⊢
    have kp := parts_keeps (expr_keeps N k) (until_keeps (one := stmt N k) N)
    by_cases h1 : ¬ (m.z = 0)
    · have hw := word_keeps m.l _ h1
      have hb : (if kindOf (word m.l m.z).v = 0 then bad (word m.l m.z).z 1 else (word m.l m.z).z) = m.z := by
        rw [hw]
        split
        · exact bad_of h1
        · rfl
      rw [hb, kp _ _ _ h1] at hz
      exact absurd hz h1
    replace h1 := Decidable.not_not.1 h1
    rw [h1] at hz ⊢
    have s2 := word_small m.l 0
    generalize word m.l 0 = w at hz s2 ⊢
    by_cases h2 : ¬ ((if kindOf w.v = 0 then bad w.z 1 else w.z) = 0)
    · rw [kp _ _ _ h2] at hz; exact absurd hz h2
    replace h2 := Decidable.not_not.1 h2
    rw [h2] at hz ⊢
    obtain ⟨a1, a2⟩ := parts_fine (expr_keeps N k) (expr_fine N k) (until_keeps N) (until_fine (stmt_fine N k) N) _ hz
    have := s1 h1
    exact ⟨a1, by omega⟩
theorem fn_fine (N : Nat) : Fine (fn N) FnSh (fun f => f.p.length + stsN f.b) := by
  intro l h
  have hz : (until_ (stmt N 11) N (until_ name N (must 40 (name (must 40 l 0).l (must 40 l 0).z).l (name (must 40 l 0).l (must 40 l 0).z).z).l (must 40 (name (must 40 l 0).l (must 40 l 0).z).l (name (must 40 l 0).l (must 40 l 0).z).z).z).l (until_ name N (must 40 (name (must 40 l 0).l (must 40 l 0).z).l (name (must 40 l 0).l (must 40 l 0).z).z).l (must 40 (name (must 40 l 0).l (must 40 l 0).z).l (name (must 40 l 0).l (must 40 l 0).z).z).z).z).z = 0 := h
  clear h
  unfold fn
  simp only
  have s1 := must_small 40 l 0
  generalize must 40 l 0 = m at hz s1 ⊢
  have K := until_keeps (one := stmt N 11) N
  have K2 := until_keeps (one := name) N
  by_cases h1 : ¬ (m.z = 0)
  · rw [name_keeps _ _ h1, must_keeps 40 _ _ h1, K2 _ _ h1, K _ _ h1] at hz; exact absurd hz h1
  replace h1 := Decidable.not_not.1 h1
  rw [h1] at hz ⊢
  have f1 := name_fine m.l
  generalize name m.l 0 = t at hz f1 ⊢
  by_cases h2 : ¬ (t.z = 0)
  · rw [must_keeps 40 _ _ h2, K2 _ _ h2, K _ _ h2] at hz; exact absurd hz h2
  replace h2 := Decidable.not_not.1 h2
  rw [h2] at hz ⊢
  have s2 := must_small 40 t.l 0
  generalize must 40 t.l 0 = b at hz s2 ⊢
  by_cases h3 : ¬ (b.z = 0)
  · rw [K2 _ _ h3, K _ _ h3] at hz; exact absurd hz h3
  replace h3 := Decidable.not_not.1 h3
  rw [h3] at hz ⊢
  have f2 := until_fine name_fine N b.l
  generalize until_ name N b.l 0 = p at hz f2 ⊢
  by_cases h4 : ¬ (p.z = 0)
  · rw [K _ _ h4] at hz; exact absurd hz h4
  replace h4 := Decidable.not_not.1 h4
  rw [h4] at hz ⊢
  have f3 := until_fine (stmt_fine N 11) N p.l
  generalize until_ (stmt N 11) N p.l 0 = s at hz f3 ⊢
  obtain ⟨a1, a2⟩ := f1 h2
  obtain ⟨b1, b2⟩ := f2 h4
  obtain ⟨c1, c2⟩ := f3 hz
  refine ⟨⟨a1, b1, c1⟩, ?_⟩
  simp only at a2 b2 c2 ⊢
  rw [stsN_sum]
  have : ∀ l : List Bs, (l.map fun _ => 1).sum = l.length := by
    intro l
    induction l with
    | nil => rfl
    | cons x l ih => simp only [List.map_cons, List.sum_cons, List.length_cons, ih]; omega
  have := this p.v
  omega
theorem fns_fine (N : Nat) : ∀ n, Fine (fnsP N n) (fun v => ∀ f ∈ v, FnSh f) fnsN
  | 0, l => fun _ => ⟨fun x hx => by simp [fnsP] at hx, by simp [fnsP, fnsN]⟩
  | n + 1, l => by
    have hs := skip_len l
    unfold fnsP
    rw [if_pos rfl]
    split
    · intro _; exact ⟨fun x hx => by simp at hx, by simp [fnsN]⟩
    · intro hz
      have hz1 : (fnsP N n (fn N (skip l) 0).l (fn N (skip l) 0).z).z = 0 := hz
      clear hz
      simp only
      have f1 := fn_fine N (skip l)
      generalize fn N (skip l) 0 = r at hz1 f1 ⊢
      by_cases h1 : ¬ (r.z = 0)
      · have : (fnsP N n r.l r.z).z = r.z := by
          cases n with
          | zero => rfl
          | succ n => unfold fnsP; rw [if_neg h1]
        rw [this] at hz1; exact absurd hz1 h1
      replace h1 := Decidable.not_not.1 h1
      rw [h1] at hz1 ⊢
      obtain ⟨a1, a2⟩ := f1 h1
      obtain ⟨b1, b2⟩ := fns_fine N n r.l hz1
      refine ⟨fun f hf => ?_, ?_⟩
      · rcases List.mem_cons.1 hf with rfl | hf
        · exact a1
        · exact b1 f hf
      · unfold fnsN at b2 ⊢
        simp only [List.map_cons, List.sum_cons] at a2 b2 ⊢
        omega
end Go.Proofs.YtpemfikdmkmgbaaDoor
end
section
/- Parse of any text; what a right text is. -/
set_option maxHeartbeats 0
set_option maxRecDepth 100000
namespace Go.Proofs.YtpemfikdmkmgbaaDoor
open Go Go.RowKit
/-- The functions that a text makes, or what is wrong. -/
def pt (s : Bs) : List Fn × Int := refParse 1502 1502 s
theorem parse_any (s : Bs) (w : World) (hE : Er w) (hT : Tab w) (hs : s.length ≤ 9223372036854775807) : Calls Tryd.prog 28 #[.string (bs s)] w (PPost w (pt s)) := by
  rcases Nat.lt_or_ge 1500 s.length with h | h
  · exact parse_long s 1502 1502 w h hs
  · exact parse_short s 1502 1502 w hE hT h (by omega) (by omega)
/-- Of a right text. -/
theorem pt_fine {s : Bs} (h : (pt s).2 = 0) : (∀ f ∈ (pt s).1, FnSh f) ∧ fnsN (pt s).1 ≤ 1500 ∧ s.length ≤ 1500 := by
  unfold pt refParse at *
  by_cases hl : 1500 < s.length
  · rw [if_pos hl] at h; cases h
  · rw [if_neg hl] at h ⊢
    unfold finP at *
    by_cases hz : (fnsP 1502 1502 s 0).z = 0
    · rw [if_pos hz] at h ⊢
      have := fns_fine 1502 1502 s hz
      exact ⟨this.1, by have := this.2; show fnsN (fnsP 1502 1502 s 0).v ≤ 1500; omega, by omega⟩
    · rw [if_neg hz] at h; exact absurd h hz
theorem each2 {w : World} {P : Nat → Prop} {rs : List RawF} {l : List Fn} (h : Each (FnOk2 w P) rs l) : Each (FnOk w P) rs l ∧ ∀ r ∈ rs, r.p.n ≤ r.p.c := by
  refine ⟨⟨h.1, fun i r x hr hx => (h.2 i r x hr hx).1⟩, fun r hr => ?_⟩
  obtain ⟨i, hi, e⟩ := List.getElem_of_mem hr
  have h1 : rs[i]? = some r := by rw [List.getElem?_eq_getElem hi, e]
  have h2 : l[i]? = some (l[i]'(h.1 ▸ hi)) := List.getElem?_eq_getElem _
  exact (h.2 i r _ h1 h2).2
theorem each_fr {w w' : World} {rs : List RawF} {l : List Fn} (h : Each (FnOk w (fun k => k < w.heap.size)) rs l) (hf : Fr nothing w w') : Each (FnOk w' (fun k => k < w'.heap.size)) rs l :=
  ⟨h.1, fun i r x hr hx => fn_stays _ _ _ _ _ _ _ (h.2 i r x hr hx) hf (fun _ _ => id) (fun _ hk => Nat.lt_of_lt_of_le hk hf.size)⟩
end Go.Proofs.YtpemfikdmkmgbaaDoor
end
section
/- The closed fact of chapter 6's statements. -/
set_option maxHeartbeats 0
set_option maxRecDepth 100000
namespace Go.Proofs.YtpemfikdmkmgbaaDoor
open Go Go.RowKit
def toZ (P : Pg) : Pz := ⟨P.cs.map (fun c => ⟨(c.np : Int), (c.nv : Int), c.ins⟩), P.ws⟩
theorem PgOk.z {w : World} {sc sw : Slc} {P : Pg} (h : PgOk w sc sw P) : PzOk w sc sw (toZ P) := by
  obtain ⟨⟨rs, h1, h2⟩, h3, _, _⟩ := h
  refine ⟨⟨rs, h1, ⟨by rw [h2.1]; simp [toZ], fun i r x e1 e2 => ?_⟩⟩, h3⟩
  unfold toZ at e2
  simp only [List.getElem?_map] at e2
  obtain ⟨c, hc, rfl⟩ := Option.map_eq_some_iff.1 e2
  have := h2.2 i r c e1 hc
  exact ⟨this.np, this.nv, this.s⟩
abbrev b6 : Bs := [40, 109, 97, 105, 110, 32, 40, 41, 32, 40, 115, 97, 121, 32, 40, 43, 32, 49, 32, 50, 41, 41, 41]
abbrev f6 : Fn := ⟨[109, 97, 105, 110], [], [.mk 5 [] [.mk 4 1 [] [.mk 1 1 [] [], .mk 1 2 [] []]] [] []]⟩
theorem b6l : (pt b6).1 = [f6] := by kernel_rfl
theorem b6z : (pt b6).2 = 0 := by kernel_rfl
abbrev i6 : List In := [⟨1, 1, 0⟩, ⟨1, 2, 0⟩, ⟨5, 1, 0⟩, ⟨14, 0, 0⟩, ⟨1, 0, 0⟩, ⟨18, 0, 0⟩]
abbrev p6 : Pz := ⟨[⟨0, 0, i6⟩], []⟩
theorem p6k : toZ (progK [f6]).1 = p6 := by kernel_rfl
theorem p6z : programC p6 = 0 := by kernel_rfl
theorem h6 : heightsC i6 = ([0, 1, 2, 1, 0, 1], 0) := by kernel_rfl
abbrev bad6 : Pz := ⟨[⟨0, 0, [⟨19, 0, 0⟩]⟩], []⟩
theorem bad6z : programC bad6 = 10 := by kernel_rfl
abbrev a6 : Ag := ⟨0, 0, p6, [⟨0, 0, [], []⟩], [], 0, 0, 0⟩
theorem a6f : agentC a6 false = 0 := by kernel_rfl
theorem a6t : agentC a6 true = 10 := by kernel_rfl
theorem f6r : ∀ f ∈ [f6], FnR [f6] f := by
  intro f hf
  have hsh := (pt_fine b6z).1 f6 (by rw [b6l]; simp)
  rw [List.mem_singleton.1 hf]
  refine ⟨hsh, ?_, ?_, by decide⟩
  · simp [stsKe, stKe, exsKd, exKd]
  · simp [stsU, stU, exsU, exU]
theorem sl_not {α : Type} {enc : α → List Value} {sz B : Nat} {w : World} {s : Slc} {l : List α} (h : Sl enc sz w s.v l) {x : α} (hx : l[0]? = some x) {z : Int} (hu : (enc x)[0]? = some (.int .i64 z)) (hb : ∀ j z, w.cell? ⟨B, j, none⟩ ≠ some (.int .i64 z)) : ∀ k, (∃ ao n c, s.v = .slice (some ao) n c ∧ ao.block = k) → ¬ k = B := by
  rintro k ⟨ao, n, c, e1, e2⟩ rfl
  obtain ⟨ao', cap, he, _, hc⟩ := h
  obtain ⟨b, off, rfl, _, hcell⟩ := hc 0 x hx
  rw [he] at e1
  simp only [Value.slice.injEq, Option.some.injEq] at e1
  obtain ⟨rfl, _, _⟩ := e1
  simp only at e2
  subst e2
  exact hb _ _ (hcell 0 _ hu)
theorem Er.keep6 {w w' : World} (h : Er w) (hf : Fr nothing w w') : Er w' := h.fr hf id id
theorem Tab.keep6 {w w' : World} (h : Tab w) (hf : Fr nothing w w') : Tab w' := Lib.tabBelow_of_tabIs h w' (hf.below (Nat.le_refl _) (fun _ _ => id))
theorem made_any (w : World) (hE : Er w) (hT : Tab w) :
    Calls Tryd.prog 12 #[.string (bs b6)] w fun e w' => ∃ sc sw : Slc, e = .returned (.agg #[.slice sc.a sc.n sc.c, .slice sw.a sw.n sw.c]) ∧ Fr nothing w w' ∧ PzOk w' sc sw p6 := by
  have FA : Fr nothing w (w.alloc (.cells #[.slice none 0 0, .slice none 0 0] 25)) := (Fr.refl _ _).alloc _
  have ma := made_cells (Fr.refl nothing (w.alloc (.cells #[.slice none 0 0, .slice none 0 0] 25))) id
  obtain ⟨w1, hw1⟩ : ∃ x, x = w.alloc (.cells #[.slice none 0 0, .slice none 0 0] 25) := ⟨_, rfl⟩
  rw [← hw1] at FA ma
  have HP := hide (parse_any b6 w1 (hE.keep6 FA) (hT.keep6 FA) (by decide))
  have HMA := hide ma
  have HFA := hide FA
  have HMK : Hid (∀ (sl : Slc) (rs : List RawF) (w2 : World), Sl encG 3 w2 sl.v rs → Each (FnOk w2 (fun k => k < w2.heap.size)) rs (pt b6).1 → Calls Tryd.prog 29 #[.slice sl.a sl.n sl.c] w2 (MkP w2 (progK [f6]))) := fun sl rs w2 h1 h2 => by
    rw [b6l] at h2
    have h3 := sl_blk h1 (fun e => by have := h2.1; rw [e] at this; simp at this)
    have hN := (pt_fine b6z).2.1
    rw [b6l] at hN
    exact rmake [f6] sl rs w2 h1 h2 h3 f6r (by omega) (by decide)
  have HPUT : Hid (∀ (w4 : World) (v0 v1 : Value), Fr nothing w1 w4 → ∃ w5, (w4.setCell ⟨w.heap.size, 0, none⟩ v0).setCell ⟨w.heap.size, 1, none⟩ v1 = w5 ∧ w5.cell? ⟨w.heap.size, 0, none⟩ = some v0 ∧ w5.cell? ⟨w.heap.size, 1, none⟩ = some v1 ∧ Fr nothing w w5 ∧ Fr (fun k => k = w.heap.size) w4 w5) := fun w4 v0 v1 hf => by
    obtain ⟨w5, x1, x2, x3, x4⟩ := put2 v0 v1 ((hf.cell (p := ⟨w.heap.size, 0, none⟩) HMA.out.2.2 id).trans (HMA.out.1 0)) ((hf.cell (p := ⟨w.heap.size, 1, none⟩) HMA.out.2.2 id).trans (HMA.out.1 1))
    exact ⟨w5, x1, x2, x3, (HFA.out.trans hf).then x4 (fun j hj e => by omega), x4⟩
  have HBX : Hid (∀ (sc sw : Slc) (w3 : World), Fr nothing w1 w3 → PgOk w3 sc sw (progK [f6]).1 → ∃ w4 w5 : World, w3.alloc (.cells #[.slice sc.a sc.n sc.c, .slice sw.a sw.n sw.c] 25) = w4 ∧ w4.cell? ⟨w3.heap.size, 0, none⟩ = some (.slice sc.a sc.n sc.c) ∧ w4.cell? ⟨w3.heap.size, 1, none⟩ = some (.slice sw.a sw.n sw.c) ∧ w3.heap.size < w4.heap.size ∧ w4.cell? ⟨w.heap.size, 0, none⟩ = some (.slice none 0 0) ∧ w4.cell? ⟨w.heap.size, 1, none⟩ = some (.slice none 0 0) ∧ w4.frozen? ⟨w.heap.size, 0, none⟩ = false ∧ w4.frozen? ⟨w.heap.size, 1, none⟩ = false ∧ w.heap.size < w4.heap.size ∧ (w4.setCell ⟨w.heap.size, 0, none⟩ (.slice sc.a sc.n sc.c)).setCell ⟨w.heap.size, 1, none⟩ (.slice sw.a sw.n sw.c) = w5 ∧ w5.cell? ⟨w.heap.size, 0, none⟩ = some (.slice sc.a sc.n sc.c) ∧ w5.cell? ⟨w.heap.size, 1, none⟩ = some (.slice sw.a sw.n sw.c) ∧ Fr nothing w w5 ∧ PzOk w5 sc sw p6) := fun sc sw w3 hf hp => by
    have f4 : Fr nothing w3 (w3.alloc (.cells #[.slice sc.a sc.n sc.c, .slice sw.a sw.n sw.c] 25)) := (Fr.refl _ _).alloc _
    have m4 := made_cells (Fr.refl nothing (w3.alloc (.cells #[.slice sc.a sc.n sc.c, .slice sw.a sw.n sw.c] 25))) id
    have f14 := hf.trans f4
    obtain ⟨w5, x1, x2, x3, x4, x5⟩ := HPUT.out _ (.slice sc.a sc.n sc.c) (.slice sw.a sw.n sw.c) f14
    have c0 := (f14.cell (p := ⟨w.heap.size, 0, none⟩) HMA.out.2.2 id).trans (HMA.out.1 0)
    have c1 := (f14.cell (p := ⟨w.heap.size, 1, none⟩) HMA.out.2.2 id).trans (HMA.out.1 1)
    refine ⟨_, w5, rfl, m4.1 0, m4.1 1, m4.2.2, c0, c1, (f14.frozen (p := ⟨w.heap.size, 0, none⟩) HMA.out.2.2 id).trans (HMA.out.2.1 0), (f14.frozen (p := ⟨w.heap.size, 1, none⟩) HMA.out.2.2 id).trans (HMA.out.2.1 1), lt_of_cell c0, x1, x2, x3, x4, ?_⟩
    have hz := hp.z
    rw [p6k] at hz
    obtain ⟨⟨rs, h1, h2⟩, h3⟩ := hz.fr f4
    have hbad : ∀ j z, (w3.alloc (.cells #[.slice sc.a sc.n sc.c, .slice sw.a sw.n sw.c] 25)).cell? ⟨w.heap.size, j, none⟩ ≠ some (.int .i64 z) := fun j z e => by
      rw [(f14.cell (p := ⟨w.heap.size, j, none⟩) HMA.out.2.2 id), HMA.out.1 j] at e
      match j, e with
      | 0, e => cases e
      | 1, e => cases e
      | j + 2, e => simp at e
    obtain ⟨r, hr⟩ : ∃ r, rs[0]? = some r := ⟨_, List.getElem?_eq_getElem (by rw [h2.1]; decide)⟩
    refine ⟨⟨rs, h1.fr x5 (sl_not h1 hr rfl hbad), h2.1, fun i r x e1 e2 => ?_⟩, ?_⟩
    · have hok := h2.2 i r x e1 e2
      have hi : i = 0 := by have := (List.getElem?_eq_some_iff.1 e2).1; simp at this; omega
      subst hi
      simp at e2
      subst e2
      exact ⟨hok.np, hok.nv, hok.s.fr x5 (sl_not hok.s rfl rfl hbad)⟩
    · obtain ⟨ao, cap, he, hm, _⟩ := h3
      exact ⟨ao, cap, he, hm, fun i x h => by simp at h⟩
  have hw1' := hw1.symm
  clear FA ma hw1 hE hT
  go_enter Tryd.func12, Tryd.ntmps12
  go_wp2_with (first
    | (go_at_call 29; refine (HMK.out sl rs w2 HS2.out (each2 HE2.out).1).mono ?_; rintro e w3 ⟨sc, sw, rfl, hf3, hpg⟩; have HF3 := hide (HF2.out.trans hf3); have HPG := hide hpg; clear hf3 hpg; obtain ⟨w4, w5, hw4, b0, b1, bl, o0, o1, z0, z1, ol, hw5, g0, g1, hfw, hpz⟩ := HBX.out sc sw w3 HF3.out HPG.out; have HG := hide (And.intro g0 (And.intro g1 (And.intro hfw hpz))); clear g0 g1 hfw hpz)
    | (go_at_call 28; refine HP.out.mono ?_; rintro e w2 ⟨sl, rfl, hf2, hn2, rs, hs2, he2⟩; rw [b6z]; have HF2 := hide hf2; have HS2 := hide hs2; have HE2 := hide he2; clear hf2 hs2 he2 hn2))
  obtain ⟨g0, g1, hfw, hpz⟩ := HG.out
  try rw [hw5]
  exact bodyPost_ret (v := .agg #[.slice sc.a sc.n sc.c, .slice sw.a sw.n sw.c]) (by simp [results, Tryd.results12, go_sem, g0, g1]) rfl ⟨sc, sw, rfl, hfw, hpz⟩
/-- What the closed fact lays. -/
theorem aw (sc sw : Slc) (w3 : World) (hP : PzOk w3 sc sw p6) : ∃ w4 w5 w6 w7 w8 : World,
    w3.alloc (.cells #[.int .i64 0, .int .i64 0, .slice none 0 0, .slice none 0 0] 57) = w4 ∧
    w4.alloc (.cells #[.int .i64 0, .int .i64 0, .slice sc.a sc.n sc.c, .slice sw.a sw.n sw.c, .slice (some ⟨w3.heap.size, 0, none⟩) 1 1, .slice none 0 0, .int .i64 0, .int .i64 0, .int .i64 0] 31) = w5 ∧
    w5.alloc (.cells #[.int .i64 19, .int .i64 0, .int .i64 0] 59) = w6 ∧
    w6.alloc (.cells #[.int .i64 0, .int .i64 0, .slice (some ⟨w5.heap.size, 0, none⟩) 1 1] 54) = w7 ∧
    w7.alloc (.cells #[.slice (some ⟨w6.heap.size, 0, none⟩) 1 1, .slice none 0 0] 25) = w8 ∧ Fr nothing w3 w8 ∧ PzOk w8 ⟨some ⟨w6.heap.size, 0, none⟩, 1, 1⟩ nilS bad6 ∧ AgOk w8 sc sw ⟨some ⟨w3.heap.size, 0, none⟩, 1, 1⟩ nilS a6 ∧ (w5.setCell ⟨w4.heap.size, 5, none⟩ (.slice none 0 0) = w5 ∧ w5.setCell ⟨w4.heap.size, 6, none⟩ (.int .i64 0) = w5 ∧ w5.setCell ⟨w4.heap.size, 7, none⟩ (.int .i64 0) = w5 ∧ w5.setCell ⟨w4.heap.size, 8, none⟩ (.int .i64 0) = w5) ∧ (w5.cell? ⟨w4.heap.size, 5, none⟩ = some (.slice none 0 0) ∧ w5.cell? ⟨w4.heap.size, 6, none⟩ = some (.int .i64 0) ∧ w5.cell? ⟨w4.heap.size, 7, none⟩ = some (.int .i64 0) ∧ w5.cell? ⟨w4.heap.size, 8, none⟩ = some (.int .i64 0)) ∧ (w5.frozen? ⟨w4.heap.size, 5, none⟩ = false ∧ w5.frozen? ⟨w4.heap.size, 6, none⟩ = false ∧ w5.frozen? ⟨w4.heap.size, 7, none⟩ = false ∧ w5.frozen? ⟨w4.heap.size, 8, none⟩ = false) ∧ (w8.setCell ⟨w7.heap.size, 1, none⟩ (.slice none 0 0) = w8 ∧ w8.frozen? ⟨w7.heap.size, 1, none⟩ = false) ∧
    ∀ w', Fr nothing w8 w' → ((w'.cell? ⟨w4.heap.size, 0, none⟩ = some (.int .i64 0) ∧ w'.cell? ⟨w4.heap.size, 1, none⟩ = some (.int .i64 0) ∧ w'.cell? ⟨w4.heap.size, 2, none⟩ = some (.slice sc.a sc.n sc.c) ∧ w'.cell? ⟨w4.heap.size, 3, none⟩ = some (.slice sw.a sw.n sw.c) ∧ w'.cell? ⟨w4.heap.size, 4, none⟩ = some (.slice (some ⟨w3.heap.size, 0, none⟩) 1 1)) ∧ (w'.cell? ⟨w4.heap.size, 5, none⟩ = some (.slice none 0 0) ∧ w'.cell? ⟨w4.heap.size, 6, none⟩ = some (.int .i64 0) ∧ w'.cell? ⟨w4.heap.size, 7, none⟩ = some (.int .i64 0) ∧ w'.cell? ⟨w4.heap.size, 8, none⟩ = some (.int .i64 0)) ∧ w4.heap.size < w'.heap.size) ∧ (w'.cell? ⟨w7.heap.size, 0, none⟩ = some (.slice (some ⟨w6.heap.size, 0, none⟩) 1 1) ∧ w'.cell? ⟨w7.heap.size, 1, none⟩ = some (.slice none 0 0) ∧ w7.heap.size < w'.heap.size) := by
  obtain ⟨w4, h4⟩ : ∃ x, w3.alloc (.cells #[.int .i64 0, .int .i64 0, .slice none 0 0, .slice none 0 0] 57) = x := ⟨_, rfl⟩
  obtain ⟨w5, h5⟩ : ∃ x, w4.alloc (.cells #[.int .i64 0, .int .i64 0, .slice sc.a sc.n sc.c, .slice sw.a sw.n sw.c, .slice (some ⟨w3.heap.size, 0, none⟩) 1 1, .slice none 0 0, .int .i64 0, .int .i64 0, .int .i64 0] 31) = x := ⟨_, rfl⟩
  obtain ⟨w6, h6⟩ : ∃ x, w5.alloc (.cells #[.int .i64 19, .int .i64 0, .int .i64 0] 59) = x := ⟨_, rfl⟩
  obtain ⟨w7, h7⟩ : ∃ x, w6.alloc (.cells #[.int .i64 0, .int .i64 0, .slice (some ⟨w5.heap.size, 0, none⟩) 1 1] 54) = x := ⟨_, rfl⟩
  obtain ⟨w8, h8⟩ : ∃ x, w7.alloc (.cells #[.slice (some ⟨w6.heap.size, 0, none⟩) 1 1, .slice none 0 0] 25) = x := ⟨_, rfl⟩
  have f4 : Fr nothing w3 w4 := by rw [← h4]; exact (Fr.refl _ _).alloc _
  have f5 : Fr nothing w4 w5 := by rw [← h5]; exact (Fr.refl _ _).alloc _
  have f6 : Fr nothing w5 w6 := by rw [← h6]; exact (Fr.refl _ _).alloc _
  have f7 : Fr nothing w6 w7 := by rw [← h7]; exact (Fr.refl _ _).alloc _
  have f8 : Fr nothing w7 w8 := by rw [← h8]; exact (Fr.refl _ _).alloc _
  have s4 : Sl encM 4 w4 (Slc.v ⟨some ⟨w3.heap.size, 0, none⟩, 1, 1⟩) [⟨0, 0, nilS, nilS⟩] := by rw [← h4]; exact sl_one (T := 57) w3 _ _ rfl
  have s6 : Sl encI 3 w6 (Slc.v ⟨some ⟨w5.heap.size, 0, none⟩, 1, 1⟩) [⟨19, 0, 0⟩] := by rw [← h6]; exact sl_one (T := 59) w5 _ _ rfl
  have s7 : Sl encC 3 w7 (Slc.v ⟨some ⟨w6.heap.size, 0, none⟩, 1, 1⟩) [⟨0, 0, ⟨some ⟨w5.heap.size, 0, none⟩, 1, 1⟩⟩] := by rw [← h7]; exact sl_one (T := 54) w6 _ _ rfl
  have m0 := made_cells (w := w4) (cs := #[.int .i64 0, .int .i64 0, .slice sc.a sc.n sc.c, .slice sw.a sw.n sw.c, .slice (some ⟨w3.heap.size, 0, none⟩) 1 1, .slice none 0 0, .int .i64 0, .int .i64 0, .int .i64 0]) (t := 31) (w1 := w5) (S := nothing) (by rw [h5]; exact Fr.refl _ _) id
  have f38 := (((f4.trans f5).trans f6).trans f7).trans f8
  refine ⟨w4, w5, w6, w7, w8, h4, h5, h6, h7, h8, f38, ⟨⟨_, s7.fr f8 (fun _ _ => id), rfl, fun i r x e1 e2 => ?_⟩, sl_nil _ _ _⟩, ⟨hP.fr f38, ⟨_, s4.fr (((f5.trans f6).trans f7).trans f8) (fun _ _ => id), rfl, fun i r x e1 e2 => ?_⟩, sl_nil _ _ _⟩, ⟨by rw [← h5, World.setCell_alloc_at _ _ _ _ _ rfl]; rfl, by rw [← h5, World.setCell_alloc_at _ _ _ _ _ rfl]; rfl, by rw [← h5, World.setCell_alloc_at _ _ _ _ _ rfl]; rfl, by rw [← h5, World.setCell_alloc_at _ _ _ _ _ rfl]; rfl⟩, ⟨m0.1 5, m0.1 6, m0.1 7, m0.1 8⟩, ⟨m0.2.1 5, m0.2.1 6, m0.2.1 7, m0.2.1 8⟩, ⟨by rw [← h8, World.setCell_alloc_at _ _ _ _ _ rfl]; rfl, by rw [← h8]; exact (made_cells (Fr.refl nothing _) id).2.1 1⟩, fun w' hf => ?_⟩
  · have hi : i = 0 := by have := (List.getElem?_eq_some_iff.1 e1).1; simp at this; omega
    subst hi
    simp at e1 e2
    subst e1 e2
    exact ⟨rfl, rfl, s6.fr (f7.trans f8) (fun _ _ => id)⟩
  · have hi : i = 0 := by have := (List.getElem?_eq_some_iff.1 e1).1; simp at this; omega
    subst hi
    simp at e1 e2
    subst e1 e2
    exact ⟨rfl, rfl, sl_nil _ _ _, sl_nil _ _ _⟩
  · have m5 := made_cells (w := w4) (cs := #[.int .i64 0, .int .i64 0, .slice sc.a sc.n sc.c, .slice sw.a sw.n sw.c, .slice (some ⟨w3.heap.size, 0, none⟩) 1 1, .slice none 0 0, .int .i64 0, .int .i64 0, .int .i64 0]) (t := 31) (w1 := w') (S := nothing) (by rw [h5]; exact ((f6.trans f7).trans f8).trans hf) id
    have m8 := made_cells (w := w7) (cs := #[.slice (some ⟨w6.heap.size, 0, none⟩) 1 1, .slice none 0 0]) (t := 25) (w1 := w') (S := nothing) (by rw [h8]; exact hf) id
    exact ⟨⟨⟨m5.1 0, m5.1 1, m5.1 2, m5.1 3, m5.1 4⟩, ⟨m5.1 5, m5.1 6, m5.1 7, m5.1 8⟩, m5.2.2⟩, m8.1 0, m8.1 1, m8.2.2⟩
theorem wf6 : WfZ p6 ∧ WfZ bad6 := by
  refine ⟨⟨fun c hc => ?_, fun t ht => (by cases ht)⟩, ⟨fun c hc => ?_, fun t ht => (by cases ht)⟩⟩
  · rw [List.mem_singleton.1 hc]
    refine ⟨⟨by decide, by decide⟩, ⟨by decide, by decide⟩, fun i hi => ?_⟩
    simp only [List.mem_cons, List.not_mem_nil, or_false] at hi
    rcases hi with rfl | rfl | rfl | rfl | rfl | rfl <;> exact ⟨⟨by decide, by decide⟩, ⟨by decide, by decide⟩, ⟨by decide, by decide⟩⟩
  · rw [List.mem_singleton.1 hc]
    refine ⟨⟨by decide, by decide⟩, ⟨by decide, by decide⟩, fun i hi => ?_⟩
    rw [List.mem_singleton.1 hi]
    exact ⟨⟨by decide, by decide⟩, ⟨by decide, by decide⟩, ⟨by decide, by decide⟩⟩
theorem wfa6 : WfA a6 := by
  refine ⟨wf6.1, fun f hf => ?_, fun c hc => (by cases hc), ⟨⟨by decide, by decide⟩, ⟨by decide, by decide⟩, ⟨by decide, by decide⟩, ⟨by decide, by decide⟩, ⟨by decide, by decide⟩⟩, ⟨by decide, by decide⟩⟩
  rw [List.mem_singleton.1 hf]
  exact ⟨⟨by decide, by decide⟩, ⟨by decide, by decide⟩, fun v hv => (by cases hv), fun v hv => (by cases hv)⟩
theorem alive6_any (w : World) (hE : Er w) (hT : Tab w) : Calls Tryd.prog 5 #[] w fun e w' => e = .returned (.bool true) ∧ Fr nothing w w' := by
  have HMD := hide (made_any w hE hT)
  have HPB : Hid (∀ (sc sw : Slc) (w1 : World), PzOk w1 sc sw p6 → ∃ (w2 : World) (g o xa : Nat) (xo xc scc : Nat), sc.a = some ⟨g, o, none⟩ ∧ sc.n = 1 ∧ sc.c = scc ∧ w1.alloc (.cells #[.slice (some ⟨g, o, none⟩) 1 scc, .slice sw.a sw.n sw.c] 25) = w2 ∧ Fr nothing w1 w2 ∧ (∀ w', Fr nothing w2 w' → w'.cell? ⟨w1.heap.size, 0, none⟩ = some (.slice (some ⟨g, o, none⟩) 1 scc) ∧ w'.cell? ⟨w1.heap.size, 1, none⟩ = some (.slice sw.a sw.n sw.c) ∧ w1.heap.size < w'.heap.size) ∧ (w2.cell? ⟨g, o, none⟩ = some (.int .i64 0) ∧ w2.cell? ⟨g, o + 1, none⟩ = some (.int .i64 0) ∧ w2.cell? ⟨g, o + 2, none⟩ = some (.slice (some ⟨xa, xo, none⟩) 6 xc) ∧ g < w2.heap.size) ∧ Sl encI 3 w2 (Slc.v ⟨some ⟨xa, xo, none⟩, 6, xc⟩) i6) := fun sc sw w1 hp => by
    obtain ⟨⟨rs, h1, h2⟩, -⟩ := hp
    obtain ⟨n1, -⟩ := sl_len h1
    obtain ⟨r, hr⟩ : ∃ r, rs[0]? = some r := ⟨_, List.getElem?_eq_getElem (by rw [h2.1]; decide)⟩
    have hok := h2.2 0 r ⟨0, 0, i6⟩ hr rfl
    obtain ⟨g, o, e1, dg, u0, u1, u2⟩ := sl_elemC h1 hr
    obtain ⟨n2, -⟩ := sl_len hok.s
    obtain ⟨xa, xo, e2, -, -⟩ := sl_elemI hok.s (i := 0) (r := ⟨1, 1, 0⟩) rfl
    have f2 : Fr nothing w1 (w1.alloc (.cells #[.slice (some ⟨g, o, none⟩) 1 sc.c, .slice sw.a sw.n sw.c] 25)) := (Fr.refl _ _).alloc _
    obtain ⟨rnp, rnv, ⟨ra, rn, rc⟩⟩ := r
    have h3 := hok.np
    have h4 := hok.nv
    have h5 := hok.s
    simp only at h3 h4 h5 n2 e2 u0 u1 u2
    subst h3 h4 n2 e2
    refine ⟨_, g, o, xa, xo, rc, sc.c, e1, by rw [n1, h2.1]; rfl, rfl, rfl, f2, fun w' hf => ?_, ⟨(f2.cell (p := ⟨g, o, none⟩) dg id).trans (by simpa using u0), (f2.cell (p := ⟨g, o + 1, none⟩) dg id).trans (by simpa using u1), (f2.cell (p := ⟨g, o + 2, none⟩) dg id).trans (by simpa using u2), Nat.lt_of_lt_of_le dg f2.size⟩, h5.fr f2 (fun _ _ => id)⟩
    have m := made_cells hf id
    exact ⟨m.1 0, m.1 1, m.2.2⟩
  have HHT : Hid (∀ (sl : Slc) (w2 : World), Sl encI 3 w2 sl.v i6 → Calls Tryd.prog 13 #[.agg #[.int .i64 0, .int .i64 0, .slice sl.a sl.n sl.c]] w2 fun e w' => ∃ (ga oa hc : Nat), e = .returned (.tuple #[.slice (some ⟨ga, oa, none⟩) 6 hc, .int .i64 0]) ∧ Fr nothing w2 w' ∧ w'.cell? ⟨ga, oa + 2, none⟩ = some (.int .i64 2) ∧ ga < w'.heap.size) := fun sl w2 hs =>
    (vheights_any i6 0 0 sl w2 hs (by decide) (fun i hi e => by
      simp only [List.mem_cons, List.not_mem_nil, or_false] at hi
      rcases hi with rfl | rfl | rfl | rfl | rfl | rfl <;> cases e)).mono (by
      rintro e w' ⟨s, rfl, hf, hs', -⟩
      rw [h6] at hs'
      obtain ⟨n1, -⟩ := sl_len hs'
      obtain ⟨ga, oa, e1, dg, u⟩ := sl_elemZ' hs' (i := 2) (z := 2) rfl
      obtain ⟨sa, sn, sc⟩ := s
      simp only at n1 e1
      subst n1 e1
      exact ⟨ga, oa, sc, by rw [h6]; rfl, hf, u, dg⟩)
  have HP6 : Hid (∀ (sc sw : Slc) (w8 : World), PzOk w8 sc sw p6 → Calls Tryd.prog 10 #[.agg #[.slice sc.a sc.n sc.c, .slice sw.a sw.n sw.c]] w8 fun e w' => e = .returned (.int .i64 0) ∧ Fr nothing w8 w') := fun sc sw w8 h => by
    have := vProgram_any p6 sc sw w8 h wf6.1
    rw [p6z] at this
    exact this
  have HB6 : Hid (∀ (sc sw : Slc) (w8 : World), PzOk w8 sc sw bad6 → Calls Tryd.prog 10 #[.agg #[.slice sc.a sc.n sc.c, .slice sw.a sw.n sw.c]] w8 fun e w' => e = .returned (.int .i64 10) ∧ Fr nothing w8 w') := fun sc sw w8 h => by
    have := vProgram_any bad6 sc sw w8 h wf6.2
    rw [bad6z] at this
    exact this
  have HAF : Hid (∀ (sc sw sf : Slc) (w8 : World), AgOk w8 sc sw sf nilS a6 → Calls Tryd.prog 6 #[.agg (agC a6 sc sw sf nilS), .bool false] w8 fun e w' => e = .returned (.int .i64 0) ∧ Fr nothing w8 w') := fun sc sw sf w8 h => by
    have := vAgent_any a6 sc sw sf nilS false w8 h wfa6
    rw [a6f] at this
    exact this
  have HAT : Hid (∀ (sc sw sf : Slc) (w8 : World), AgOk w8 sc sw sf nilS a6 → Calls Tryd.prog 6 #[.agg (agC a6 sc sw sf nilS), .bool true] w8 fun e w' => e = .returned (.int .i64 10) ∧ Fr nothing w8 w') := fun sc sw sf w8 h => by
    have := vAgent_any a6 sc sw sf nilS true w8 h wfa6
    rw [a6t] at this
    exact this
  have HAW := hide aw
  clear hE hT
  go_enter Tryd.func5, Tryd.ntmps5
  go_wp2_with (first
    | (go_at_call 6; refine (HAT.out ⟨some ⟨g, o, none⟩, 1, scc⟩ sw ⟨some ⟨w3.heap.size, 0, none⟩, 1, 1⟩ w11 (HAG.out.fr' HF11.out)).mono ?_; rintro e w12 ⟨rfl, hf12⟩; have HF12 := hide (HF11.out.trans hf12); clear hf12)
    | (go_at_call 6; refine (HAF.out ⟨some ⟨g, o, none⟩, 1, scc⟩ sw ⟨some ⟨w3.heap.size, 0, none⟩, 1, 1⟩ w10 (HAG.out.fr' HF10.out)).mono ?_; rintro e w11 ⟨rfl, hf11⟩; have HF11 := hide (HF10.out.trans hf11); obtain ⟨⟨⟨r0, r1, r2, r3, r4⟩, ⟨r5, r6, r7, r8⟩, rl⟩, rb0, rb1, rbl⟩ := HCL.out w11 HF11.out; clear hf11)
    | (go_at_call 10; refine (HB6.out ⟨some ⟨w6.heap.size, 0, none⟩, 1, 1⟩ nilS w9 (HBD.out.fr HF9.out)).mono ?_; rintro e w10 ⟨rfl, hf10⟩; have HF10 := hide (HF9.out.trans hf10); obtain ⟨⟨⟨q0, q1, q2, q3, q4⟩, ⟨q5, q6, q7, q8⟩, ql⟩, qb0, qb1, qbl⟩ := HCL.out w10 HF10.out; clear hf10)
    | (go_at_call 10; refine (HP6.out ⟨some ⟨g, o, none⟩, 1, scc⟩ sw w8 HPZ8.out).mono ?_; rintro e w9 ⟨rfl, hf9⟩; have HF9 := hide hf9; obtain ⟨⟨⟨y0, y1, y2, y3, y4⟩, ⟨y5, y6, y7, y8⟩, yl⟩, yb0, yb1, ybl⟩ := HCL.out w9 hf9; clear hf9)
    | (go_at_call 13; refine (HHT.out ⟨some ⟨xa, xo, none⟩, 6, xc⟩ w2 HSI.out).mono ?_; rintro e w3 ⟨ga, oa, hc, rfl, hf3, uz, ugl⟩; have HF3 := hide (HF2.out.trans hf3); obtain ⟨b0', b1', bl'⟩ := HBX.out w3 hf3; obtain ⟨w4, w5, w6, w7, w8, k4, k5, k6, k7, k8, hf8, hbd, hag, ⟨i5, i6, i7, i8⟩, ⟨j5, j6, j7, j8⟩, ⟨l5, l6, l7, l8⟩, ⟨i9, l9⟩, hcl⟩ := HAW.out ⟨some ⟨g, o, none⟩, 1, scc⟩ sw w3 (HPZ.out.fr (HF12a.out.trans hf3)); simp only at k4 k5 k6 k7 k8; have HF8 := hide (HF3.out.trans hf8); have HBD := hide hbd; have HAG := hide hag; have HCL := hide hcl; have HPZ8 := hide (HPZ.out.fr ((HF12a.out.trans hf3).trans hf8)); have uz8 := (hf8.cell (p := ⟨ga, oa + 2, none⟩) ugl id).trans uz; have ugl8 := Nat.lt_of_lt_of_le ugl hf8.size; obtain ⟨c0', c1', cl'⟩ := HBX.out w8 (hf3.trans hf8); obtain ⟨⟨⟨x0, x1, x2, x3, x4⟩, ⟨x5, x6, x7, x8⟩, xl⟩, xb0, xb1, xbl⟩ := hcl w8 (Fr.refl _ _); clear hf3 hf8 hbd hag hcl)
    | (go_at_call 12; refine HMD.out.mono ?_; rintro e w1 ⟨sc, sw, rfl, hf1, hpz⟩; obtain ⟨w2, g, o, xa, xo, xc, sc9, ea, en, ec, hw2, hf2, hbx, ⟨u0, u1, u2, ul⟩, hsi⟩ := HPB.out sc sw w1 hpz; obtain ⟨sca, scn, scc⟩ := sc; simp only at ea en ec; subst ea en ec; have HPZ := hide hpz; have HBX := hide hbx; have HSI := hide hsi; have HF2 := hide (hf1.trans hf2); have HF12a := hide hf2; obtain ⟨b0, b1, bl⟩ := hbx w2 (Fr.refl _ _); clear hf1 hf2 hpz hbx hsi))
  go_ret
  exact ⟨rfl, HF8.out.trans HF12.out⟩
end Go.Proofs.YtpemfikdmkmgbaaDoor
end
section
/- Arguments opened: programs. -/
set_option maxRecDepth 100000
namespace Go.Proofs.YtpemfikdmkmgbaaDoor
open Go Go.RowKit
theorem list_of {α : Type} {p : Nat → α → Prop} : ∀ (n : Nat), (∀ i, i < n → ∃ x, p i x) → ∃ l : List α, l.length = n ∧ ∀ i x, l[i]? = some x → p i x
  | 0, _ => ⟨[], rfl, fun i x h => by simp at h⟩
  | n + 1, h => by
    obtain ⟨l, hl, hp⟩ := list_of n (fun i hi => h i (by omega))
    obtain ⟨x, hx⟩ := h n (by omega)
    refine ⟨l ++ [x], by simp [hl], fun i y hy => ?_⟩
    rcases Nat.lt_or_ge i n with h1 | h1
    · rw [List.getElem?_append_left (by omega)] at hy
      exact hp i y hy
    · rw [List.getElem?_append_right (by omega)] at hy
      have h2 : i < n + 1 := by
        have := (List.getElem?_eq_some_iff.1 hy).1
        simp at this; omega
      obtain rfl : i = n := by omega
      rw [hl] at hy
      simp at hy
      rw [← hy]; exact hx
theorem cells3 : Tryd.prog.cellsOf 3 = 1 := by kernel_rfl
theorem cells9 : Tryd.prog.cellsOf 9 = 1 := by kernel_rfl
theorem cellsIn : Tryd.prog.cellsOf 59 = 3 := by kernel_rfl
theorem cellsIns : Tryd.prog.cellsOf 52 = 1 := by kernel_rfl
theorem cellsCd : Tryd.prog.cellsOf 54 = 3 := by kernel_rfl
theorem cellsCds : Tryd.prog.cellsOf 22 = 1 := by kernel_rfl
theorem cellsStrs : Tryd.prog.cellsOf 23 = 1 := by kernel_rfl
theorem cellsPg : Tryd.prog.cellsOf 25 = 2 := by kernel_rfl
theorem cellsPm : Tryd.prog.cellsOf 29 = 3 := by kernel_rfl
section
variable {H : Type} {enc : TypeId × Value → H} {w : World} {base : Nat} {sp : Nat → Bool} {held : Bool}
theorem i64_of_wf {n : Int} (h : (Lit.int .i64 n).wf = true) : -9223372036854775808 ≤ n ∧ n ≤ 9223372036854775807 := by
  simpa [Lit.wf, IntKind.min, IntKind.max, IntKind.signed, IntKind.bits] using h
theorem open_list {α : Type} {encA : α → List Value} {sz : Nat} {Wf : α → Prop} {t e : TypeId} (ht : Tryd.prog.underlying t = some (.slice e)) (hce : Tryd.prog.cellsOf e = sz) (hs : 0 < sz)
    (hopen : ∀ {fuel : Nat} {cs : List Value} {x : DataW H × List MemPlace}, DataW.trod enc Tryd.prog w base sp held fuel e cs = some x → ∃ a : α, cs = encA a ∧ Wf a)
    {fuel : Nat} {v : Value} {x : DataW H × List MemPlace} (h : DataW.trod enc Tryd.prog w base sp held fuel t [v] = some x) :
    ∃ l : List α, Sl encA sz w v l ∧ (∀ a ∈ l, Wf a) ∧ ((x.1 = .nil ∧ l = []) ∨ ∃ els spare, x.1 = .slice els spare ∧ els.length = l.length) := by
  rcases Deep.open_slice ht h with ⟨hcs, rfl⟩ | ⟨a, len, cap, m, n, D, Pl, hcs, hb, hlc, hcm, hm, rfl, hel⟩
  · obtain rfl : v = .slice none 0 0 := by simpa using hcs
    exact ⟨[], ⟨none, 0, rfl, by unfold maxLen; simp, fun i x hx => by simp at hx⟩, by simp, .inl ⟨rfl, rfl⟩⟩
  · obtain rfl : v = .slice (some a) len cap := by simpa using hcs
    have hlm : len ≤ m := by rw [hm]; split <;> omega
    rw [hce] at hel
    obtain ⟨l, hl, hp⟩ := list_of (p := fun i (y : α) => Wf y ∧ w.cells? base (a.add (i * sz)) sz = some (encA y)) len (fun i hi => by
      obtain ⟨cs', hc', hd'⟩ := hel i (by omega)
      obtain ⟨y, rfl, hw⟩ := hopen hd'
      exact ⟨y, hw, hc'⟩)
    refine ⟨l, ⟨some a, cap, by rw [hl], by omega, fun i y hy => ?_⟩, fun y hy => ?_, .inr ⟨_, _, rfl, by simp [hl]⟩⟩
    · obtain ⟨_, hc⟩ := hp i y hy
      obtain ⟨_, hlen, hcell⟩ := World.cells?_some hc
      have hbl := World.cells?_block hc hs
      have hil : i < len := by rw [← hl]; exact (List.getElem?_eq_some_iff.1 hy).1
      have hsp : a.spot = none := by
        obtain ⟨cs0, hc0, _⟩ := hel 0 (by omega)
        obtain ⟨_, hl0, hcell0⟩ := World.cells?_some hc0
        have h0 := hcell0 0 hs
        rw [Nat.zero_mul] at h0
        have e0 : (a.add 0).add 0 = a := by simp [Addr.add]
        rw [e0, List.getElem?_eq_getElem (by omega)] at h0
        cases ha : a.spot with
        | none => rfl
        | some s =>
          exfalso
          unfold World.cell? at h0
          split at h0
          · simp [ha] at h0
          · cases h0
      obtain ⟨ab, ao, asp⟩ := a
      simp only at hsp
      subst hsp
      have hadd : ∀ k, (⟨ab, ao, none⟩ : Addr).add k = ⟨ab, ao + k, none⟩ := fun k => by unfold Addr.add; split <;> simp_all
      refine ⟨ab, ao, rfl, ?_, fun j u hu => ?_⟩
      · rw [hadd] at hbl; exact hbl
      · have hj : j < sz := by rw [← hlen]; exact (List.getElem?_eq_some_iff.1 hu).1
        have := hcell j hj
        rw [Deep.add_add, hadd, hu, ← Nat.add_assoc] at this
        exact this
    · obtain ⟨i, hi, rfl⟩ := List.getElem_of_mem hy
      exact (hp i _ (List.getElem?_eq_getElem hi)).1
theorem open_in {fuel : Nat} {cs : List Value} {x : DataW H × List MemPlace} (h : DataW.trod enc Tryd.prog w base sp held fuel 59 cs = some x) : ∃ i : In, cs = encI i ∧ WfI i := by
  obtain ⟨y0, y1, y2, n, _, hl, h0, h1, h2⟩ := Deep.trod_struct3 Tryd.underlying59 h
  rw [cellsIn] at hl
  match cs, hl with
  | [c0, c1, c2], _ =>
    simp only [cells3, List.drop_zero, List.drop_succ_cons, List.take_succ_cons, List.take_zero] at h0 h1 h2
    obtain ⟨k, e0, _, w0⟩ := DataW.trod_int Tryd.underlying3 h0
    obtain ⟨m, e1, _, w1⟩ := DataW.trod_int Tryd.underlying3 h1
    obtain ⟨o, e2, _, w2⟩ := DataW.trod_int Tryd.underlying3 h2
    simp at e0 e1 e2
    subst e0 e1 e2
    exact ⟨⟨k, m, o⟩, rfl, i64_of_wf w0, i64_of_wf w1, i64_of_wf w2⟩
theorem open_word {fuel : Nat} {cs : List Value} {x : DataW H × List MemPlace} (h : DataW.trod enc Tryd.prog w base sp held fuel 9 cs = some x) : ∃ t : Bs, cs = encN t ∧ t.length ≤ 9223372036854775807 := by
  obtain ⟨s, e2, _, w2⟩ := DataW.trod_string Tryd.underlying9 h
  subst e2
  refine ⟨s.data.toList, rfl, ?_⟩
  have e : s.data.toList.length = s.size := Array.length_toList
  rw [e]
  unfold maxLen at w2
  omega
/-- A code that lies there. -/
def WfR (w : World) (r : RawC) : Prop := ∃ c : Cz, CzOk w r c ∧ i64 c.np ∧ i64 c.nv ∧ ∀ i ∈ c.ins, WfI i
theorem open_code {fuel : Nat} {cs : List Value} {x : DataW H × List MemPlace} (h : DataW.trod enc Tryd.prog w base sp held fuel 54 cs = some x) : ∃ r : RawC, cs = encC r ∧ WfR w r := by
  obtain ⟨y0, y1, y2, n, _, hl, h0, h1, h2⟩ := Deep.trod_struct3 Tryd.underlying54 h
  rw [cellsCd] at hl
  match cs, hl with
  | [c0, c1, c2], _ =>
    simp only [cells3, cellsIns, List.drop_zero, List.drop_succ_cons, List.take_succ_cons, List.take_zero] at h0 h1 h2
    obtain ⟨k, e0, _, w0⟩ := DataW.trod_int Tryd.underlying3 h0
    obtain ⟨m, e1, _, w1⟩ := DataW.trod_int Tryd.underlying3 h1
    obtain ⟨l, hs, hw, _⟩ := open_list Tryd.underlying52 cellsIn (by decide) (fun h => open_in h) h2
    simp at e0 e1
    subst e0 e1
    obtain ⟨ao, cap, rfl, hm, hc⟩ := id hs
    exact ⟨⟨k, m, ⟨ao, l.length, cap⟩⟩, rfl, ⟨k, m, l⟩, ⟨rfl, rfl, hs⟩, i64_of_wf w0, i64_of_wf w1, hw⟩
theorem open_prog {fuel : Nat} {cs : List Value} {x : DataW H × List MemPlace} (h : DataW.trod enc Tryd.prog w base sp held fuel 25 cs = some x) : ∃ (sc sw : Slc) (p : Pz), cs = [.slice sc.a sc.n sc.c, .slice sw.a sw.n sw.c] ∧ PzOk w sc sw p ∧ WfZ p := by
  obtain ⟨y0, y1, n, _, hl, h0, h1⟩ := ChangeShapes.trod_struct2 Tryd.underlying25 h
  rw [cellsPg] at hl
  match cs, hl with
  | [c0, c1], _ =>
    simp only [cellsCds, cellsStrs, List.drop_zero, List.drop_succ_cons, List.take_succ_cons, List.take_zero] at h0 h1
    obtain ⟨rs, hs, hw, _⟩ := open_list Tryd.underlying22 cellsCd (by decide) (fun h => open_code h) h0
    obtain ⟨ws, hs1, hw1, _⟩ := open_list Tryd.underlying23 cells9 (by decide) (fun h => open_word h) h1
    obtain ⟨cl, hcl, hcp⟩ := list_of (p := fun i (c : Cz) => ∀ r, rs[i]? = some r → CzOk w r c ∧ i64 c.np ∧ i64 c.nv ∧ ∀ i ∈ c.ins, WfI i) rs.length (fun i hi => by
      obtain ⟨c, hc⟩ := hw rs[i] (List.getElem_mem hi)
      exact ⟨c, fun r hr => by rw [List.getElem?_eq_getElem hi] at hr; cases hr; exact hc⟩)
    obtain ⟨ao, cap, rfl, hm, hc⟩ := id hs
    obtain ⟨ao1, cap1, rfl, hm1, hc1⟩ := id hs1
    refine ⟨⟨ao, rs.length, cap⟩, ⟨ao1, ws.length, cap1⟩, ⟨cl, ws⟩, rfl, ⟨⟨rs, hs, hcl.symm, fun i r x e1 e2 => (hcp i x e2 r e1).1⟩, hs1⟩, ⟨fun c hc => ?_, hw1⟩⟩
    obtain ⟨i, hi, rfl⟩ := List.getElem_of_mem hc
    exact (hcp i _ (List.getElem?_eq_getElem hi) _ (List.getElem?_eq_getElem (by rw [← hcl]; exact hi))).2
end
end Go.Proofs.YtpemfikdmkmgbaaDoor
end
section
/- A world for the witnesses: the settled one, the tables and errors of Go's library holding what their initialisers lay; what a row's list gives. -/
namespace Go.Proofs.YtpemfikdmkmgbaaDoor
/-- One block's cells put in place. -/
def putCells (l : List Value) : Obj → Obj
  | .cells _ t frozen => .cells l.toArray t frozen
  | o => o
open Go.ChangeShapes Go.WideShapes Go.ChangeAt Go.RowKit Go.ChangeMaps
def pow10s : List Value := [1, 10, 100, 1000, 10000, 100000, 1000000, 10000000, 100000000, 1000000000, 10000000000, 100000000000, 1000000000000, 10000000000000, 100000000000000, 1000000000000000, 10000000000000000, 100000000000000000, 1000000000000000000, 10000000000000000000].map fun n => .int .u64 n
def bruijn32 : List Value := [0, 1, 28, 2, 29, 14, 24, 3, 30, 22, 20, 15, 25, 17, 4, 8, 31, 27, 13, 23, 21, 19, 16, 7, 26, 12, 18, 6, 11, 5, 10, 9].map fun n => .int .u8 n
def bruijn64 : List Value := [0, 1, 56, 2, 57, 49, 28, 3, 61, 58, 42, 50, 38, 29, 17, 4, 62, 47, 59, 36, 45, 43, 51, 22, 53, 39, 33, 30, 24, 18, 12, 5, 63, 55, 48, 27, 60, 41, 37, 16, 46, 35, 44, 21, 52, 32, 23, 11, 54, 26, 40, 15, 34, 20, 31, 10, 25, 14, 19, 9, 13, 8, 7, 6].map fun n => .int .u8 n
def synT : List UInt8 := [105, 110, 118, 97, 108, 105, 100, 32, 115, 121, 110, 116, 97, 120]
def rngT : List UInt8 := [118, 97, 108, 117, 101, 32, 111, 117, 116, 32, 111, 102, 32, 114, 97, 110, 103, 101]
noncomputable def baseWorld (os : Os) : World := World.holding Tryd.prog os ⟨#[], #[], []⟩
noncomputable def laidWorld (os : Os) : World :=
  { baseWorld os with heap := ((((((baseWorld os).heap.modify 3 (putCells [.iface 174 (.pointer (some ⟨(baseWorld os).heap.size, 0, none⟩))])).modify 4 (putCells [.iface 174 (.pointer (some ⟨(baseWorld os).heap.size + 1, 0, none⟩))])).modify 0 (putCells pow10s)).modify 1 (putCells bruijn32)).modify 2 (putCells bruijn64)).push (.cells #[.string ⟨synT.toArray⟩] 176 (0, 0)) |>.push (.cells #[.string ⟨rngT.toArray⟩] 176 (0, 0)) }
theorem own : ownKnob Tryd.prog.godebug = none := by kernel_rfl
theorem laidOut : laidOutB Tryd.prog = true := by kernel_rfl
theorem g0 : Tryd.prog.globalNamed "strconv.ErrSyntax" = some 3 := by kernel_rfl
theorem g1 : Tryd.prog.globalNamed "strconv.ErrRange" = some 4 := by kernel_rfl
theorem gt0 : (Tryd.prog.globals[3]?).map (·.type) = some 147 := by kernel_rfl
theorem gt1 : (Tryd.prog.globals[4]?).map (·.type) = some 147 := by kernel_rfl
theorem err_at {W : World} {n : String} {g : Nat} {nm : String} {d : DataW Unit} (hg : Tryd.prog.globalNamed n = some g) (ht : (Tryd.prog.globals[g]?).map (·.type) = some 147) (h : Lib.VarReads Tryd.prog W n (.iface nm d)) : ∃ ev, W.cell? ⟨g, 0, none⟩ = some ev ∧ (ev = .nilIface ∨ ∃ te pe, ev = .iface te pe) := by
  obtain ⟨g', t', cs, fuel, p, h1, h2, h3, h4⟩ := h
  obtain rfl := Option.some.inj (hg.symm.trans h1)
  obtain rfl := Option.some.inj (ht.symm.trans h2)
  obtain ⟨_, u, v, hcs, _⟩ := iface_of_trod Tryd.underlying147 h4
  refine ⟨.iface u v, ?_, .inr ⟨u, v, rfl⟩⟩
  unfold World.var? at h3
  rw [hg] at h3
  simp only [Option.bind_some] at h3
  unfold World.cell?
  split at h3
  · rename_i cs' t fr he
    cases h3
    rw [he]
    obtain ⟨l⟩ := cs
    simp only at hcs
    subst hcs
    simp
  · cases h3
/-- What the row's list gives: the two errors. -/
theorem errs {W : World} (h : laidMetH Tryd.prog Rows.verifyBeginsRow.laid W) : Er W := by
  have h1 : laidMet Tryd.prog Rows.verifyBeginsRow.laid W := h
  exact ⟨err_at g0 gt0 (Lib.laidMet.reads h1 (n := "strconv.ErrSyntax") (d := Rows.laid_strconv_ErrSyntax) (by simp [Rows.verifyBeginsRow])), err_at g1 gt1 (Lib.laidMet.reads h1 (n := "strconv.ErrRange") (d := Rows.laid_strconv_ErrRange) (by simp [Rows.verifyBeginsRow]))⟩
theorem gTab : Tryd.prog.globalNamed "internal/strconv.uint64pow10" = some 0 := by kernel_rfl
theorem gTabType : (Tryd.prog.globals[0]?).map (·.type) = some 151 := by kernel_rfl
theorem cellsA20 : Tryd.prog.cellsOf 151 = 20 := by kernel_rfl
theorem cellsU64 : Tryd.prog.cellsOf 140 = 1 := by kernel_rfl
/-- What the row's list gives: the table that Itoa reads. -/
theorem table {W : World} (h : laidMetH Tryd.prog Rows.verifyBeginsRow.laid W) : Tab W := by
  have h1 : laidMet Tryd.prog Rows.verifyBeginsRow.laid W := h
  have h2 := h1.filter (fun x => x.1 == "internal/strconv.uint64pow10")
  exact Lib.tabIs_of_head (rest := []) gTab gTabType Tryd.underlying151 Tryd.underlying140 cellsU64 cellsA20 h2
end Go.Proofs.YtpemfikdmkmgbaaDoor
end
