/- What is wrong with the names of functions; what the functions of a text look like (no program). -/
import Derived.Test.YtgocmpooppejdaaPure
namespace Go.Proofs.Ytgocmpooppejdaa

/-- Texts, each counted once. -/
structure WS where
  f : Bs → Bool
  n : Nat
def WS.empty : WS := ⟨fun _ => false, 0⟩
def WS.add (W : WS) (k : Bs) : WS := ⟨fun x => decide (x = k) || W.f x, if W.f k then W.n else W.n + 1⟩
theorem WS.add_le (W : WS) (k : Bs) : (W.add k).n ≤ W.n + 1 := by unfold WS.add; dsimp only; split <;> omega
theorem WS.le_add (W : WS) (k : Bs) : W.n ≤ (W.add k).n := by unfold WS.add; dsimp only; split <;> omega

/-- What is wrong with an expression itself. -/
def exE (F : Bs → Option Int) (nm : List Bs) (k : Int) (t : Bs) (n : Nat) : Int :=
  if k = 3 then (if nm.contains t then 0 else 6)
  else if k = 11 then (match F t with | none => 6 | some m => if m = n then 0 else 5)
  else 0
def exW (k : Int) (t : Bs) (W : WS) : WS := if k = 2 then W.add t else W
structure EW where
  e : Int
  W : WS
def EW.or (r : EW) (g : WS → EW) : EW := if r.e = 0 then g r.W else r
mutual
def exC (F : Bs → Option Int) (nm : List Bs) : Ex → WS → EW
  | .mk k _ t a => fun W => EW.or ⟨exE F nm k t a.length, exW k t W⟩ (exsC F nm a)
def exsC (F : Bs → Option Int) (nm : List Bs) : List Ex → WS → EW
  | [] => fun W => ⟨0, W⟩
  | x :: l => fun W => (exC F nm x W).or (exsC F nm l)
end
mutual
def exN : Ex → Nat
  | .mk _ _ _ a => 1 + exsN a
def exsN : List Ex → Nat
  | [] => 0
  | x :: l => exN x + exsN l
end
/-- What is wrong, which names are there then, how many variables, and the texts. -/
structure CR where
  e : Int
  nm : List Bs
  v : Int
  W : WS
def CR.or (r : CR) (g : CR → CR) : CR := if r.e = 0 then g r else r
def stE (nm : List Bs) (v : Int) (k : Int) (t : Bs) : Int :=
  if k = 1 then (if nm.contains t then 7 else if 8 ≤ v then 4 else 0)
  else if k = 2 then (if nm.contains t then 0 else 6) else 0
def stN1 (nm : List Bs) (k : Int) (t : Bs) : List Bs := if k = 1 then nm ++ [t] else nm
def stV1 (v : Int) (k : Int) : Int := if k = 1 then v + 1 else v
mutual
def stC (F : Bs → Option Int) : St → List Bs → Int → WS → CR
  | .mk k t a x y => fun nm v W =>
    CR.or ⟨(exsC F nm a W).e, nm, v, (exsC F nm a W).W⟩ fun r =>
    CR.or ⟨stE nm v k t, stN1 nm k t, stV1 v k, r.W⟩ fun r =>
    CR.or (stsC F x r.nm r.v r.W) fun r2 =>
    CR.or (stsC F y r.nm r2.v r2.W) fun r3 => ⟨0, r.nm, r3.v, r3.W⟩
def stsC (F : Bs → Option Int) : List St → List Bs → Int → WS → CR
  | [] => fun nm v W => ⟨0, nm, v, W⟩
  | s :: l => fun nm v W => (stC F s nm v W).or fun r => stsC F l r.nm r.v r.W
end
mutual
def stN : St → Nat
  | .mk _ _ a x y => 1 + exsN a + stsN x + stsN y
def stsN : List St → Nat
  | [] => 0
  | s :: l => stN s + stsN l
end
/-- A function's head. -/
def dup : List Bs → Bool
  | [] => false
  | x :: l => l.contains x || dup l
def headsC : List Fn → (Bs → Option Int) → Int × (Bs → Option Int)
  | [], F => (0, F)
  | f :: l, F => if (F f.t).isSome || dup f.p then (7, F) else if 4 < f.p.length then (5, F) else headsC l (fun x => if x = f.t then some f.p.length else F x)
def bodiesC (F : Bs → Option Int) : List Fn → WS → EW
  | [], W => ⟨0, W⟩
  | f :: l, W => EW.or ⟨(stsC F f.b f.p f.p.length W).e, (stsC F f.b f.p f.p.length W).W⟩ (bodiesC F l)
def firstP (l : List Fn) : Nat := match l with | [] => 0 | f :: _ => f.p.length
def checkC (l : List Fn) : Int :=
  if l.length = 0 ∨ 5 < l.length then 5
  else if (headsC l (fun _ => none)).1 ≠ 0 then (headsC l (fun _ => none)).1
  else if firstP l ≠ 0 then 10
  else if (bodiesC (headsC l (fun _ => none)).2 l WS.empty).e ≠ 0 then (bodiesC (headsC l (fun _ => none)).2 l WS.empty).e
  else if 16 < (bodiesC (headsC l (fun _ => none)).2 l WS.empty).W.n then 4 else 0

/-- What the expressions and statements of a text look like. -/
inductive ExSh : Ex → Prop
  | mk {k n : Int} {t : Bs} {a : List Ex} (h1 : k = 1 ∨ k = 2 ∨ k = 3 ∨ k = 9 → a = []) (h2 : t.length ≤ 1500) (h3 : ∀ x ∈ a, ExSh x) : ExSh (.mk k n t a)
inductive StSh : St → Prop
  | mk {k : Int} {t : Bs} {a : List Ex} {x y : List St} (h1 : k ≠ 3 → k ≠ 4 → x = []) (h2 : k ≠ 3 → y = []) (h3 : t.length ≤ 1500) (h4 : ∀ e ∈ a, ExSh e) (h5 : ∀ s ∈ x, StSh s) (h6 : ∀ s ∈ y, StSh s) : StSh (.mk k t a x y)
structure FnSh (f : Fn) : Prop where
  t : f.t.length ≤ 1500
  p : ∀ s ∈ f.p, s.length ≤ 1500
  b : ∀ s ∈ f.b, StSh s
def fnsN (l : List Fn) : Nat := (l.map fun f => f.p.length + stsN f.b).sum

/- The texts grow by at most what is looked at. -/
theorem EW.or_le {r : EW} {g : WS → EW} {a b : Nat} (h1 : r.W.n ≤ a) (h2 : ∀ W : WS, W.n ≤ a → (g W).W.n ≤ a + b) : (r.or g).W.n ≤ a + b := by
  unfold EW.or
  split
  · exact h2 _ h1
  · omega
mutual
theorem exC_le (F : Bs → Option Int) (nm : List Bs) : ∀ (x : Ex) (W : WS), (exC F nm x W).W.n ≤ W.n + exN x
  | .mk k n t a, W => by
    unfold exC exN
    have h1 : (exW k t W).n ≤ W.n + 1 := by
      unfold exW; split
      · exact W.add_le t
      · omega
    have := EW.or_le (r := ⟨exE F nm k t a.length, exW k t W⟩) (g := exsC F nm a) (a := W.n + 1) (b := exsN a) h1 (fun W' h => by have := exsC_le F nm a W'; omega)
    omega
theorem exsC_le (F : Bs → Option Int) (nm : List Bs) : ∀ (l : List Ex) (W : WS), (exsC F nm l W).W.n ≤ W.n + exsN l
  | [], W => by simp [exsC, exsN]
  | x :: l, W => by
    unfold exsC exsN
    have h1 := exC_le F nm x W
    have := EW.or_le (r := exC F nm x W) (g := exsC F nm l) (a := W.n + exN x) (b := exsN l) h1 (fun W' h => by have := exsC_le F nm l W'; omega)
    omega
end
theorem CR.or_le {r : CR} {g : CR → CR} {a b : Nat} (h1 : r.W.n ≤ a) (h2 : ∀ R : CR, R.W.n ≤ a → (g R).W.n ≤ a + b) : (r.or g).W.n ≤ a + b := by
  unfold CR.or
  split
  · exact h2 _ h1
  · omega
mutual
theorem stC_le (F : Bs → Option Int) : ∀ (s : St) (nm : List Bs) (v : Int) (W : WS), (stC F s nm v W).W.n ≤ W.n + stN s
  | .mk k t a x y, nm, v, W => by
    unfold stC stN
    have h1 := exsC_le F nm a W
    refine Nat.le_trans (CR.or_le (a := W.n + exsN a) (b := stsN x + stsN y) h1 fun R hR => ?_) (by omega)
    refine Nat.le_trans (CR.or_le (a := W.n + exsN a) (b := stsN x + stsN y) hR fun R2 hR2 => ?_) (by omega)
    have h2 := stsC_le F x R2.nm R2.v R2.W
    refine Nat.le_trans (CR.or_le (a := W.n + exsN a + stsN x) (b := stsN y) (by omega) fun R3 hR3 => ?_) (by omega)
    have h3 := stsC_le F y R2.nm R3.v R3.W
    refine Nat.le_trans (CR.or_le (a := W.n + exsN a + stsN x + stsN y) (b := 0) (by omega) fun R4 hR4 => ?_) (by omega)
    exact Nat.le_trans hR4 (by omega)
theorem stsC_le (F : Bs → Option Int) : ∀ (l : List St) (nm : List Bs) (v : Int) (W : WS), (stsC F l nm v W).W.n ≤ W.n + stsN l
  | [], nm, v, W => by simp [stsC, stsN]
  | s :: l, nm, v, W => by
    unfold stsC stsN
    have h1 := stC_le F s nm v W
    refine Nat.le_trans (CR.or_le (a := W.n + stN s) (b := stsN l) h1 fun R hR => ?_) (by omega)
    have h2 := stsC_le F l R.nm R.v R.W
    omega
end
mutual
theorem stC_v (F : Bs → Option Int) : ∀ (s : St) (nm : List Bs) (v : Int) (W : WS), 0 ≤ v → v ≤ 8 → (stC F s nm v W).e = 0 → 0 ≤ (stC F s nm v W).v ∧ (stC F s nm v W).v ≤ 8
  | .mk k t a x y, nm, v, W => by
    intro h0 h8
    rw [stC]
    simp only
    unfold CR.or
    split
    · dsimp only
      split
      · rename_i hs
        try dsimp only at hs
        have hv : 0 ≤ stV1 v k ∧ stV1 v k ≤ 8 := by
          unfold stV1; split
          · rename_i hk
            have : ¬ 8 ≤ v := by
              intro h
              unfold stE at hs
              rw [if_pos hk] at hs
              by_cases hc : nm.contains t = true
              · rw [if_pos hc] at hs; cases hs
              · rw [if_neg hc, if_pos h] at hs; cases hs
            omega
          · omega
        split
        · rename_i hx
          have h2 := stsC_v F x (stN1 nm k t) (stV1 v k) (exsC F nm a W).W hv.1 hv.2 hx
          split
          · rename_i hy
            intro _
            exact stsC_v F y (stN1 nm k t) _ _ h2.1 h2.2 hy
          · rename_i hy; intro h; exact absurd h hy
        · rename_i hx; intro h; exact absurd h hx
      · rename_i hs; intro h; exact absurd h hs
    · rename_i he; intro h; exact absurd h he
theorem stsC_v (F : Bs → Option Int) : ∀ (l : List St) (nm : List Bs) (v : Int) (W : WS), 0 ≤ v → v ≤ 8 → (stsC F l nm v W).e = 0 → 0 ≤ (stsC F l nm v W).v ∧ (stsC F l nm v W).v ≤ 8
  | [], nm, v, W => by
    intro h0 h8 _
    rw [stsC]
    exact ⟨h0, h8⟩
  | s :: l, nm, v, W => by
    intro h0 h8
    rw [stsC]
    simp only
    unfold CR.or
    split
    · rename_i he
      have h1 := stC_v F s nm v W h0 h8 he
      exact stsC_v F l _ _ _ h1.1 h1.2
    · rename_i he; intro h; exact absurd h he
end
theorem exN_mem {x : Ex} : ∀ {l : List Ex}, x ∈ l → exN x ≤ exsN l
  | y :: l, h => by
    unfold exsN
    rcases List.mem_cons.1 h with rfl | h
    · omega
    · have := exN_mem h; omega
theorem stN_mem {x : St} : ∀ {l : List St}, x ∈ l → stN x ≤ stsN l
  | y :: l, h => by
    unfold stsN
    rcases List.mem_cons.1 h with rfl | h
    · omega
    · have := stN_mem h; omega
theorem exN_pos (x : Ex) : 1 ≤ exN x := by cases x; unfold exN; omega
theorem stN_pos (x : St) : 1 ≤ stN x := by cases x; unfold stN; omega
theorem exsN_drop : ∀ (l : List Ex) (i : Nat), exsN (l.drop i) ≤ exsN l
  | [], i => by simp
  | x :: l, 0 => by simp
  | x :: l, i + 1 => by rw [List.drop_succ_cons, exsN]; have := exsN_drop l i; omega
theorem stsN_drop : ∀ (l : List St) (i : Nat), stsN (l.drop i) ≤ stsN l
  | [], i => by simp
  | x :: l, 0 => by simp
  | x :: l, i + 1 => by rw [List.drop_succ_cons, stsN]; have := stsN_drop l i; omega
end Go.Proofs.Ytgocmpooppejdaa
