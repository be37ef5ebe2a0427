/- Programs as code: what is made of functions (no program). -/
import Derived.Test.YtgocmpooppejdaaSpec
namespace Go.Proofs.Ytgocmpooppejdaa

structure In where
  op : Int
  a : Int
  b : Int
/-- A text's number, and the texts then. -/
def wnum (ws : List Bs) (t : Bs) : Nat := ws.idxOf t
def wput (ws : List Bs) (t : Bs) : List Bs := if ws.contains t then ws else ws ++ [t]
def plainOp (k : Int) : Int := if k = 5 then 6 else if k = 6 then 7 else if k = 7 then 8 else if k = 8 then 11 else if k = 10 then 13 else 0
/-- The instruction that ends an expression. -/
def lastI (G E : Bs → Int) (k n : Int) (t : Bs) (len : Nat) (ws : List Bs) : In :=
  if k = 1 then ⟨1, n, 0⟩ else if k = 2 then ⟨2, wnum ws t, 0⟩ else if k = 3 then ⟨3, E t, 0⟩ else if k = 9 then ⟨12, 0, 0⟩ else if k = 4 then ⟨5, n, 0⟩
  else if k = 11 then ⟨17, G t, len⟩ else ⟨plainOp k, 0, 0⟩
def lastW (k : Int) (t : Bs) (ws : List Bs) : List Bs := if k = 2 then wput ws t else ws
structure XR where
  ins : List In
  ws : List Bs
mutual
def exK (G E : Bs → Int) : Ex → List Bs → XR
  | .mk k n t a => fun ws => ⟨(exsK G E a ws).ins ++ [lastI G E k n t a.length (exsK G E a ws).ws], lastW k t (exsK G E a ws).ws⟩
def exsK (G E : Bs → Int) : List Ex → List Bs → XR
  | [] => fun ws => ⟨[], ws⟩
  | x :: l => fun ws => ⟨(exK G E x ws).ins ++ (exsK G E l (exK G E x ws).ws).ins, (exsK G E l (exK G E x ws).ws).ws⟩
end
/- How many values lie there at most. -/
mutual
def deepK : Ex → Nat
  | .mk _ _ _ a => max 1 (dpsK 0 a)
def dpsK : Nat → List Ex → Nat
  | _, [] => 0
  | i, x :: l => max (i + deepK x) (dpsK (i + 1) l)
end
mutual
def highK : St → Nat
  | .mk _ _ a x y => max (dpsK 0 a) (max (highsK x) (highsK y))
def highsK : List St → Nat
  | [] => 0
  | s :: l => max (highK s) (highsK l)
end
def upd (E : Bs → Int) (t : Bs) (v : Int) : Bs → Int := fun x => if x = t then v else E x
def stOp (k : Int) : Int := if k = 5 then 14 else if k = 6 then 18 else if k = 7 then 9 else if k = 8 then 10 else if k = 9 then 19 else 0
/-- The code of statements, the names then, how many variables, the texts. -/
structure KR where
  ins : List In
  E : Bs → Int
  v : Nat
  ws : List Bs
mutual
def stK (G : Bs → Int) : St → (Bs → Int) → Nat → List Bs → Nat → KR
  | .mk k t a x y => fun E v ws o =>
    if k = 1 then ⟨(exsK G E a ws).ins ++ [⟨4, v, 0⟩], upd E t v, v + 1, (exsK G E a ws).ws⟩
    else if k = 2 then ⟨(exsK G E a ws).ins ++ [⟨4, E t, 0⟩], E, v, (exsK G E a ws).ws⟩
    else if k = 3 then
      ⟨(exsK G E a ws).ins ++ ⟨16, ((o + (exsK G E a ws).ins.length + (stsK G x E v (exsK G E a ws).ws (o + (exsK G E a ws).ins.length + 1)).ins.length + 2 : Nat) : Int), 0⟩ :: ((stsK G x E v (exsK G E a ws).ws (o + (exsK G E a ws).ins.length + 1)).ins ++
        ⟨15, ((o + (exsK G E a ws).ins.length + (stsK G x E v (exsK G E a ws).ws (o + (exsK G E a ws).ins.length + 1)).ins.length + 2 + (stsK G y E (stsK G x E v (exsK G E a ws).ws (o + (exsK G E a ws).ins.length + 1)).v (stsK G x E v (exsK G E a ws).ws (o + (exsK G E a ws).ins.length + 1)).ws (o + (exsK G E a ws).ins.length + (stsK G x E v (exsK G E a ws).ws (o + (exsK G E a ws).ins.length + 1)).ins.length + 2)).ins.length : Nat) : Int), 0⟩ :: (stsK G y E (stsK G x E v (exsK G E a ws).ws (o + (exsK G E a ws).ins.length + 1)).v (stsK G x E v (exsK G E a ws).ws (o + (exsK G E a ws).ins.length + 1)).ws (o + (exsK G E a ws).ins.length + (stsK G x E v (exsK G E a ws).ws (o + (exsK G E a ws).ins.length + 1)).ins.length + 2)).ins), E,
        (stsK G y E (stsK G x E v (exsK G E a ws).ws (o + (exsK G E a ws).ins.length + 1)).v (stsK G x E v (exsK G E a ws).ws (o + (exsK G E a ws).ins.length + 1)).ws (o + (exsK G E a ws).ins.length + (stsK G x E v (exsK G E a ws).ws (o + (exsK G E a ws).ins.length + 1)).ins.length + 2)).v,
        (stsK G y E (stsK G x E v (exsK G E a ws).ws (o + (exsK G E a ws).ins.length + 1)).v (stsK G x E v (exsK G E a ws).ws (o + (exsK G E a ws).ins.length + 1)).ws (o + (exsK G E a ws).ins.length + (stsK G x E v (exsK G E a ws).ws (o + (exsK G E a ws).ins.length + 1)).ins.length + 2)).ws⟩
    else if k = 4 then
      ⟨(exsK G E a ws).ins ++ ⟨16, ((o + (exsK G E a ws).ins.length + (stsK G x E v (exsK G E a ws).ws (o + (exsK G E a ws).ins.length + 1)).ins.length + 2 : Nat) : Int), 0⟩ :: ((stsK G x E v (exsK G E a ws).ws (o + (exsK G E a ws).ins.length + 1)).ins ++ [⟨15, o, 0⟩]), E,
        (stsK G x E v (exsK G E a ws).ws (o + (exsK G E a ws).ins.length + 1)).v, (stsK G x E v (exsK G E a ws).ws (o + (exsK G E a ws).ins.length + 1)).ws⟩
    else ⟨(exsK G E a ws).ins ++ [⟨stOp k, 0, 0⟩], E, v, (exsK G E a ws).ws⟩
def stsK (G : Bs → Int) : List St → (Bs → Int) → Nat → List Bs → Nat → KR
  | [] => fun E v ws _ => ⟨[], E, v, ws⟩
  | s :: l => fun E v ws o =>
    ⟨(stK G s E v ws o).ins ++ (stsK G l (stK G s E v ws o).E (stK G s E v ws o).v (stK G s E v ws o).ws (o + (stK G s E v ws o).ins.length)).ins,
      (stsK G l (stK G s E v ws o).E (stK G s E v ws o).v (stK G s E v ws o).ws (o + (stK G s E v ws o).ins.length)).E,
      (stsK G l (stK G s E v ws o).E (stK G s E v ws o).v (stK G s E v ws o).ws (o + (stK G s E v ws o).ins.length)).v,
      (stsK G l (stK G s E v ws o).E (stK G s E v ws o).v (stK G s E v ws o).ws (o + (stK G s E v ws o).ins.length)).ws⟩
end
/-- A function's parameters are its first variables. -/
def parE : List Bs → Nat → (Bs → Int) → (Bs → Int)
  | [], _, E => E
  | t :: l, i, E => parE l (i + 1) (upd E t i)
structure Cd where
  np : Nat
  nv : Nat
  ins : List In
structure Pg where
  cs : List Cd
  ws : List Bs
def fnS (G : Bs → Int) (f : Fn) (ws : List Bs) : KR := stsK G f.b (parE f.p 0 (fun _ => 0)) f.p.length ws 0
def fnI (G : Bs → Int) (f : Fn) (ws : List Bs) : List In := (fnS G f ws).ins ++ [⟨1, 0, 0⟩, ⟨18, 0, 0⟩]
def fnMuch (G : Bs → Int) (f : Fn) (ws : List Bs) : Bool := decide (200 < (fnI G f ws).length) || decide (16 < highsK f.b)
def makeK (G : Bs → Int) : List Fn → Pg → Pg × Int
  | [], P => (P, 0)
  | f :: l, P => if fnMuch G f P.ws then (⟨[], []⟩, 4) else makeK G l ⟨P.cs ++ [⟨f.p.length, (fnS G f P.ws).v, fnI G f P.ws⟩], (fnS G f P.ws).ws⟩
/-- The functions' numbers, by their names. -/
def idxG : List Fn → Nat → (Bs → Int) → (Bs → Int)
  | [], _, G => G
  | f :: l, i, G => idxG l (i + 1) (upd G f.t i)
def progK (l : List Fn) : Pg × Int := makeK (idxG l 0 (fun _ => 0)) l ⟨[], []⟩

/- The parts of a statement, by its kind. -/
theorem exsK_nil (G E : Bs → Int) (ws : List Bs) : exsK G E [] ws = ⟨[], ws⟩ := rfl
theorem exsK_cons (G E : Bs → Int) (x : Ex) (l : List Ex) (ws : List Bs) : exsK G E (x :: l) ws = ⟨(exK G E x ws).ins ++ (exsK G E l (exK G E x ws).ws).ins, (exsK G E l (exK G E x ws).ws).ws⟩ := rfl
theorem exK_mk (G E : Bs → Int) (k n : Int) (t : Bs) (a : List Ex) (ws : List Bs) : exK G E (.mk k n t a) ws = ⟨(exsK G E a ws).ins ++ [lastI G E k n t a.length (exsK G E a ws).ws], lastW k t (exsK G E a ws).ws⟩ := rfl
theorem stsK_nil (G E : Bs → Int) (v : Nat) (ws : List Bs) (o : Nat) : stsK G [] E v ws o = ⟨[], E, v, ws⟩ := rfl
theorem stsK_cons {G E : Bs → Int} {s : St} {l : List St} {v : Nat} {ws : List Bs} {o : Nat} {r q : KR} (h : stK G s E v ws o = r) (h2 : stsK G l r.E r.v r.ws (o + r.ins.length) = q) : stsK G (s :: l) E v ws o = ⟨r.ins ++ q.ins, q.E, q.v, q.ws⟩ := by
  subst h h2; rfl
theorem stK_let {G E : Bs → Int} {t : Bs} {a : List Ex} {x y : List St} {v : Nat} {ws : List Bs} {o : Nat} {A : XR} (h : exsK G E a ws = A) : stK G (.mk 1 t a x y) E v ws o = ⟨A.ins ++ [⟨4, v, 0⟩], upd E t v, v + 1, A.ws⟩ := by
  subst h; rw [stK]; simp
theorem stK_set {G E : Bs → Int} {t : Bs} {a : List Ex} {x y : List St} {v : Nat} {ws : List Bs} {o : Nat} {A : XR} (h : exsK G E a ws = A) : stK G (.mk 2 t a x y) E v ws o = ⟨A.ins ++ [⟨4, E t, 0⟩], E, v, A.ws⟩ := by
  subst h; rw [stK]; simp
theorem stK_if {G E : Bs → Int} {t : Bs} {a : List Ex} {x y : List St} {v : Nat} {ws : List Bs} {o : Nat} {A : XR} {X Y : KR} (h : exsK G E a ws = A) (hx : stsK G x E v A.ws (o + A.ins.length + 1) = X) (hy : stsK G y E X.v X.ws (o + A.ins.length + X.ins.length + 2) = Y) :
    stK G (.mk 3 t a x y) E v ws o = ⟨A.ins ++ ⟨16, ((o + A.ins.length + X.ins.length + 2 : Nat) : Int), 0⟩ :: (X.ins ++ ⟨15, ((o + A.ins.length + X.ins.length + 2 + Y.ins.length : Nat) : Int), 0⟩ :: Y.ins), E, Y.v, Y.ws⟩ := by
  subst h hx hy; rw [stK]; simp
theorem stK_while {G E : Bs → Int} {t : Bs} {a : List Ex} {x y : List St} {v : Nat} {ws : List Bs} {o : Nat} {A : XR} {X : KR} (h : exsK G E a ws = A) (hx : stsK G x E v A.ws (o + A.ins.length + 1) = X) :
    stK G (.mk 4 t a x y) E v ws o = ⟨A.ins ++ ⟨16, ((o + A.ins.length + X.ins.length + 2 : Nat) : Int), 0⟩ :: (X.ins ++ [⟨15, o, 0⟩]), E, X.v, X.ws⟩ := by
  subst h hx; rw [stK]; simp
theorem stK_plain {G E : Bs → Int} {k : Int} {t : Bs} {a : List Ex} {x y : List St} {v : Nat} {ws : List Bs} {o : Nat} {A : XR} (h : exsK G E a ws = A) (h1 : k ≠ 1) (h2 : k ≠ 2) (h3 : k ≠ 3) (h4 : k ≠ 4) :
    stK G (.mk k t a x y) E v ws o = ⟨A.ins ++ [⟨stOp k, 0, 0⟩], E, v, A.ws⟩ := by
  subst h; rw [stK]; simp [h1, h2, h3, h4]

/- How long it gets. -/
mutual
theorem exK_len (G E : Bs → Int) : ∀ (x : Ex) (ws : List Bs), (exK G E x ws).ins.length = exN x
  | .mk k n t a, ws => by rw [exK_mk, exN]; simp only [List.length_append, List.length_singleton, exsK_len G E a ws]; omega
theorem exsK_len (G E : Bs → Int) : ∀ (l : List Ex) (ws : List Bs), (exsK G E l ws).ins.length = exsN l
  | [], ws => by rw [exsK_nil, exsN]; rfl
  | x :: l, ws => by rw [exsK_cons, exsN]; simp only [List.length_append, exK_len G E x, exsK_len G E l]
end
theorem wput_le (ws : List Bs) (t : Bs) : (wput ws t).length ≤ ws.length + 1 := by unfold wput; split <;> simp
mutual
theorem exK_ws (G E : Bs → Int) : ∀ (x : Ex) (ws : List Bs), (exK G E x ws).ws.length ≤ ws.length + exN x
  | .mk k n t a, ws => by
    rw [exK_mk, exN]
    have := exsK_ws G E a ws
    unfold lastW
    dsimp only
    split
    · have := wput_le (exsK G E a ws).ws t; omega
    · omega
theorem exsK_ws (G E : Bs → Int) : ∀ (l : List Ex) (ws : List Bs), (exsK G E l ws).ws.length ≤ ws.length + exsN l
  | [], ws => by rw [exsK_nil, exsN]; simp
  | x :: l, ws => by rw [exsK_cons, exsN]; have := exK_ws G E x ws; have := exsK_ws G E l (exK G E x ws).ws; dsimp only; omega
end
structure KLe (r : KR) (v : Nat) (ws : List Bs) (n : Nat) : Prop where
  i : r.ins.length ≤ 2 * n
  v : r.v ≤ v + n
  w : r.ws.length ≤ ws.length + n
mutual
theorem stK_le (G : Bs → Int) : ∀ (s : St) (E : Bs → Int) (v : Nat) (ws : List Bs) (o : Nat), KLe (stK G s E v ws o) v ws (stN s)
  | .mk k t a x y, E, v, ws, o => by
    have hl := exsK_len G E a ws
    have hw := exsK_ws G E a ws
    have hN : stN (.mk k t a x y) = 1 + exsN a + stsN x + stsN y := by rw [stN]
    rw [hN]
    by_cases h1 : k = 1
    · subst h1; rw [stK_let rfl]; exact ⟨by simp [hl]; omega, by simp; omega, by simp only; omega⟩
    by_cases h2 : k = 2
    · subst h2; rw [stK_set rfl]; exact ⟨by simp [hl]; omega, by simp, by simp only; omega⟩
    by_cases h3 : k = 3
    · subst h3
      rw [stK_if rfl rfl rfl]
      have hx := stsK_le G x E v (exsK G E a ws).ws (o + (exsK G E a ws).ins.length + 1)
      have hy := stsK_le G y E (stsK G x E v (exsK G E a ws).ws (o + (exsK G E a ws).ins.length + 1)).v (stsK G x E v (exsK G E a ws).ws (o + (exsK G E a ws).ins.length + 1)).ws (o + (exsK G E a ws).ins.length + (stsK G x E v (exsK G E a ws).ws (o + (exsK G E a ws).ins.length + 1)).ins.length + 2)
      have a1 := hx.i
      have a2 := hx.v
      have a3 := hx.w
      have b1 := hy.i
      have b2 := hy.v
      have b3 := hy.w
      refine ⟨?_, ?_, ?_⟩
      · simp only [List.length_append, List.length_cons, hl] at *; omega
      · simp only at *; omega
      · simp only at *; omega
    by_cases h4 : k = 4
    · subst h4
      rw [stK_while rfl rfl]
      have hx := stsK_le G x E v (exsK G E a ws).ws (o + (exsK G E a ws).ins.length + 1)
      have a1 := hx.i
      have a2 := hx.v
      have a3 := hx.w
      refine ⟨?_, ?_, ?_⟩
      · simp only [List.length_append, List.length_cons, List.length_nil, hl] at *; omega
      · simp only at *; omega
      · simp only at *; omega
    · rw [stK_plain rfl h1 h2 h3 h4]; exact ⟨by simp [hl]; omega, by simp, by simp only; omega⟩
theorem stsK_le (G : Bs → Int) : ∀ (l : List St) (E : Bs → Int) (v : Nat) (ws : List Bs) (o : Nat), KLe (stsK G l E v ws o) v ws (stsN l)
  | [], E, v, ws, o => by rw [stsK_nil]; exact ⟨by simp, by simp, by simp⟩
  | s :: l, E, v, ws, o => by
    have h1 := stK_le G s E v ws o
    have h2 := stsK_le G l (stK G s E v ws o).E (stK G s E v ws o).v (stK G s E v ws o).ws (o + (stK G s E v ws o).ins.length)
    rw [stsK_cons rfl rfl, stsN]
    have a1 := h1.i
    have a2 := h1.v
    have a3 := h1.w
    have b1 := h2.i
    have b2 := h2.v
    have b3 := h2.w
    refine ⟨?_, ?_, ?_⟩
    · simp only [List.length_append] at *; omega
    · simp only at *; omega
    · simp only at *; omega
end

/- Names that are used are there (what a right program gives). -/
mutual
def exU (H : Bs → Nat → Prop) (nm : List Bs) : Ex → Prop
  | .mk k _ t a => (k = 3 → t ∈ nm) ∧ (k = 11 → H t a.length) ∧ exsU H nm a
def exsU (H : Bs → Nat → Prop) (nm : List Bs) : List Ex → Prop
  | [] => True
  | x :: l => exU H nm x ∧ exsU H nm l
end
mutual
def stU (H : Bs → Nat → Prop) : St → List Bs → Prop
  | .mk k t a x y => fun nm => exsU H nm a ∧ (k = 1 → t ∉ nm) ∧ (k = 2 → t ∈ nm) ∧ stsU H x (stN1 nm k t) ∧ stsU H y (stN1 nm k t)
def stsU (H : Bs → Nat → Prop) : List St → List Bs → Prop
  | [] => fun _ => True
  | .mk k t a x y :: l => fun nm => stU H (.mk k t a x y) nm ∧ stsU H l (stN1 nm k t)
end
theorem exsU_mem {H : Bs → Nat → Prop} {nm : List Bs} : ∀ {l : List Ex}, exsU H nm l → ∀ x ∈ l, exU H nm x
  | y :: l, h, x, hx => by
    rw [exsU] at h
    rcases List.mem_cons.1 hx with rfl | hx
    · exact h.1
    · exact exsU_mem h.2 x hx
def HasF (F : Bs → Option Int) (t : Bs) (n : Nat) : Prop := F t = some (n : Int)
mutual
theorem exU_of (F : Bs → Option Int) (nm : List Bs) : ∀ (x : Ex) (W : WS), (exC F nm x W).e = 0 → exU (HasF F) nm x
  | .mk k n t a, W, h => by
    rw [exC] at h
    simp only [EW.or] at h
    split at h
    · rename_i h1
      rw [exU]
      refine ⟨fun hk => ?_, fun hk => ?_, exsU_of F nm a _ h⟩
      · unfold exE at h1
        rw [if_pos hk] at h1
        by_cases hc : nm.contains t = true
        · simpa using hc
        · rw [if_neg hc] at h1; cases h1
      · unfold exE at h1
        rw [if_neg (by omega), if_pos hk] at h1
        unfold HasF
        split at h1
        · cases h1
        · rename_i m hm
          by_cases e : m = a.length
          · rw [hm, e]
          · rw [if_neg e] at h1; cases h1
    · rename_i h1; exact absurd h h1
theorem exsU_of (F : Bs → Option Int) (nm : List Bs) : ∀ (l : List Ex) (W : WS), (exsC F nm l W).e = 0 → exsU (HasF F) nm l
  | [], _, _ => by rw [exsU]; trivial
  | x :: l, W, h => by
    rw [exsC] at h
    simp only [EW.or] at h
    split at h
    · rename_i h1
      rw [exsU]
      exact ⟨exU_of F nm x W h1, exsU_of F nm l _ h⟩
    · rename_i h1; exact absurd h h1
end
mutual
theorem stU_of (F : Bs → Option Int) : ∀ (s : St) (nm : List Bs) (v : Int) (W : WS), (stC F s nm v W).e = 0 → stU (HasF F) s nm
  | .mk k t a x y, nm, v, W, h => by
    rw [stC] at h
    simp only [CR.or] at h
    split at h
    · rename_i h1
      split at h
      · rename_i h2
        split at h
        · rename_i h3
          split at h
          · rename_i h4
            rw [stU]
            refine ⟨exsU_of F nm a _ h1, fun hk => ?_, fun hk => ?_, stsU_of F x _ _ _ h3, stsU_of F y _ _ _ h4⟩
            · unfold stE at h2
              rw [if_pos hk] at h2
              by_cases hc : nm.contains t = true
              · rw [if_pos hc] at h2; cases h2
              · simpa using hc
            · unfold stE at h2
              rw [if_neg (by omega), if_pos hk] at h2
              by_cases hc : nm.contains t = true
              · simpa using hc
              · rw [if_neg hc] at h2; cases h2
          · rename_i h4; exact absurd h h4
        · rename_i h3; exact absurd h h3
      · rename_i h2; exact absurd h h2
    · rename_i h1; exact absurd h h1
theorem stsU_of (F : Bs → Option Int) : ∀ (l : List St) (nm : List Bs) (v : Int) (W : WS), (stsC F l nm v W).e = 0 → stsU (HasF F) l nm
  | [], _, _, _, _ => by rw [stsU]; trivial
  | .mk k t a x y :: l, nm, v, W, h => by
    rw [stsC] at h
    simp only [CR.or] at h
    split at h
    · rename_i h1
      rw [stsU]
      refine ⟨stU_of F _ nm v W h1, ?_⟩
      have hn : (stC F (.mk k t a x y) nm v W).nm = stN1 nm k t := by
        rw [stC] at h1 ⊢
        simp only [CR.or] at h1 ⊢
        split at h1
        · rename_i g1
          rw [if_pos g1]
          split at h1
          · rename_i g2
            rw [if_pos g2]
            split at h1
            · rename_i g3
              rw [if_pos g3]
              split at h1
              · rename_i g4
                rw [if_pos g4]
              · rename_i g4; exact absurd h1 g4
            · rename_i g3; exact absurd h1 g3
          · rename_i g2; exact absurd h1 g2
        · rename_i g1; exact absurd h1 g1
      rw [hn] at h
      exact stsU_of F l _ _ _ h
    · rename_i h1; exact absurd h h1
end
end Go.Proofs.Ytgocmpooppejdaa
