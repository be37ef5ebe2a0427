/- KSpec; KB; RB; VShape; VH0; FSpec. -/
import Derived.Laws.OwnMore
import Derived.Deep.RegionHeld3
import Derived.Test.YtpemfikdmkmgbaaDoorPartB1
section
/- Programs as code: what is made of functions (no program). -/
namespace Go.Proofs.YtpemfikdmkmgbaaDoor

structure In where
  op : Int
  a : Int
  b : Int
/-- A text's number, and the texts then. -/
def wnum (ws : List Bs) (t : Bs) : Nat := ws.idxOf t
def wput (ws : List Bs) (t : Bs) : List Bs := if ws.contains t then ws else ws ++ [t]
def plainOp (k : Int) : Int := if k = 5 then 6 else if k = 6 then 7 else if k = 7 then 8 else if k = 8 then 11 else if k = 10 then 13 else 0
/-- The instruction that ends an expression. -/
def lastI (G E : Bs → Int) (k n : Int) (t : Bs) (len : Nat) (ws : List Bs) : In :=
  if k = 1 then ⟨1, n, 0⟩ else if k = 2 then ⟨2, wnum ws t, 0⟩ else if k = 3 then ⟨3, E t, 0⟩ else if k = 9 then ⟨12, 0, 0⟩ else if k = 4 then ⟨5, n, 0⟩
  else if k = 11 then ⟨17, G t, len⟩ else ⟨plainOp k, 0, 0⟩
def lastW (k : Int) (t : Bs) (ws : List Bs) : List Bs := if k = 2 then wput ws t else ws
structure XR where
  ins : List In
  ws : List Bs
mutual
def exK (G E : Bs → Int) : Ex → List Bs → XR
  | .mk k n t a => fun ws => ⟨(exsK G E a ws).ins ++ [lastI G E k n t a.length (exsK G E a ws).ws], lastW k t (exsK G E a ws).ws⟩
def exsK (G E : Bs → Int) : List Ex → List Bs → XR
  | [] => fun ws => ⟨[], ws⟩
  | x :: l => fun ws => ⟨(exK G E x ws).ins ++ (exsK G E l (exK G E x ws).ws).ins, (exsK G E l (exK G E x ws).ws).ws⟩
end
/- How many values lie there at most. -/
mutual
def deepK : Ex → Nat
  | .mk _ _ _ a => max 1 (dpsK 0 a)
def dpsK : Nat → List Ex → Nat
  | _, [] => 0
  | i, x :: l => max (i + deepK x) (dpsK (i + 1) l)
end
mutual
def highK : St → Nat
  | .mk _ _ a x y => max (dpsK 0 a) (max (highsK x) (highsK y))
def highsK : List St → Nat
  | [] => 0
  | s :: l => max (highK s) (highsK l)
end
def upd (E : Bs → Int) (t : Bs) (v : Int) : Bs → Int := fun x => if x = t then v else E x
def stOp (k : Int) : Int := if k = 5 then 14 else if k = 6 then 18 else if k = 7 then 9 else if k = 8 then 10 else if k = 9 then 19 else 0
/-- The code of statements, the names then, how many variables, the texts. -/
structure KR where
  ins : List In
  E : Bs → Int
  v : Nat
  ws : List Bs
mutual
def stK (G : Bs → Int) : St → (Bs → Int) → Nat → List Bs → Nat → KR
  | .mk k t a x y => fun E v ws o =>
    if k = 1 then ⟨(exsK G E a ws).ins ++ [⟨4, v, 0⟩], upd E t v, v + 1, (exsK G E a ws).ws⟩
    else if k = 2 then ⟨(exsK G E a ws).ins ++ [⟨4, E t, 0⟩], E, v, (exsK G E a ws).ws⟩
    else if k = 3 then
      ⟨(exsK G E a ws).ins ++ ⟨16, ((o + (exsK G E a ws).ins.length + (stsK G x E v (exsK G E a ws).ws (o + (exsK G E a ws).ins.length + 1)).ins.length + 2 : Nat) : Int), 0⟩ :: ((stsK G x E v (exsK G E a ws).ws (o + (exsK G E a ws).ins.length + 1)).ins ++
        ⟨15, ((o + (exsK G E a ws).ins.length + (stsK G x E v (exsK G E a ws).ws (o + (exsK G E a ws).ins.length + 1)).ins.length + 2 + (stsK G y E (stsK G x E v (exsK G E a ws).ws (o + (exsK G E a ws).ins.length + 1)).v (stsK G x E v (exsK G E a ws).ws (o + (exsK G E a ws).ins.length + 1)).ws (o + (exsK G E a ws).ins.length + (stsK G x E v (exsK G E a ws).ws (o + (exsK G E a ws).ins.length + 1)).ins.length + 2)).ins.length : Nat) : Int), 0⟩ :: (stsK G y E (stsK G x E v (exsK G E a ws).ws (o + (exsK G E a ws).ins.length + 1)).v (stsK G x E v (exsK G E a ws).ws (o + (exsK G E a ws).ins.length + 1)).ws (o + (exsK G E a ws).ins.length + (stsK G x E v (exsK G E a ws).ws (o + (exsK G E a ws).ins.length + 1)).ins.length + 2)).ins), E,
        (stsK G y E (stsK G x E v (exsK G E a ws).ws (o + (exsK G E a ws).ins.length + 1)).v (stsK G x E v (exsK G E a ws).ws (o + (exsK G E a ws).ins.length + 1)).ws (o + (exsK G E a ws).ins.length + (stsK G x E v (exsK G E a ws).ws (o + (exsK G E a ws).ins.length + 1)).ins.length + 2)).v,
        (stsK G y E (stsK G x E v (exsK G E a ws).ws (o + (exsK G E a ws).ins.length + 1)).v (stsK G x E v (exsK G E a ws).ws (o + (exsK G E a ws).ins.length + 1)).ws (o + (exsK G E a ws).ins.length + (stsK G x E v (exsK G E a ws).ws (o + (exsK G E a ws).ins.length + 1)).ins.length + 2)).ws⟩
    else if k = 4 then
      ⟨(exsK G E a ws).ins ++ ⟨16, ((o + (exsK G E a ws).ins.length + (stsK G x E v (exsK G E a ws).ws (o + (exsK G E a ws).ins.length + 1)).ins.length + 2 : Nat) : Int), 0⟩ :: ((stsK G x E v (exsK G E a ws).ws (o + (exsK G E a ws).ins.length + 1)).ins ++ [⟨15, o, 0⟩]), E,
        (stsK G x E v (exsK G E a ws).ws (o + (exsK G E a ws).ins.length + 1)).v, (stsK G x E v (exsK G E a ws).ws (o + (exsK G E a ws).ins.length + 1)).ws⟩
    else ⟨(exsK G E a ws).ins ++ [⟨stOp k, 0, 0⟩], E, v, (exsK G E a ws).ws⟩
def stsK (G : Bs → Int) : List St → (Bs → Int) → Nat → List Bs → Nat → KR
  | [] => fun E v ws _ => ⟨[], E, v, ws⟩
  | s :: l => fun E v ws o =>
    ⟨(stK G s E v ws o).ins ++ (stsK G l (stK G s E v ws o).E (stK G s E v ws o).v (stK G s E v ws o).ws (o + (stK G s E v ws o).ins.length)).ins,
      (stsK G l (stK G s E v ws o).E (stK G s E v ws o).v (stK G s E v ws o).ws (o + (stK G s E v ws o).ins.length)).E,
      (stsK G l (stK G s E v ws o).E (stK G s E v ws o).v (stK G s E v ws o).ws (o + (stK G s E v ws o).ins.length)).v,
      (stsK G l (stK G s E v ws o).E (stK G s E v ws o).v (stK G s E v ws o).ws (o + (stK G s E v ws o).ins.length)).ws⟩
end
/-- A function's parameters are its first variables. -/
def parE : List Bs → Nat → (Bs → Int) → (Bs → Int)
  | [], _, E => E
  | t :: l, i, E => parE l (i + 1) (upd E t i)
structure Cd where
  np : Nat
  nv : Nat
  ins : List In
structure Pg where
  cs : List Cd
  ws : List Bs
def fnS (G : Bs → Int) (f : Fn) (ws : List Bs) : KR := stsK G f.b (parE f.p 0 (fun _ => 0)) f.p.length ws 0
def fnI (G : Bs → Int) (f : Fn) (ws : List Bs) : List In := (fnS G f ws).ins ++ [⟨1, 0, 0⟩, ⟨18, 0, 0⟩]
def fnMuch (G : Bs → Int) (f : Fn) (ws : List Bs) : Bool := decide (200 < (fnI G f ws).length) || decide (16 < highsK f.b)
def makeK (G : Bs → Int) : List Fn → Pg → Pg × Int
  | [], P => (P, 0)
  | f :: l, P => if fnMuch G f P.ws then (⟨[], []⟩, 4) else makeK G l ⟨P.cs ++ [⟨f.p.length, (fnS G f P.ws).v, fnI G f P.ws⟩], (fnS G f P.ws).ws⟩
/-- The functions' numbers, by their names. -/
def idxG : List Fn → Nat → (Bs → Int) → (Bs → Int)
  | [], _, G => G
  | f :: l, i, G => idxG l (i + 1) (upd G f.t i)
def progK (l : List Fn) : Pg × Int := makeK (idxG l 0 (fun _ => 0)) l ⟨[], []⟩

/- The parts of a statement, by its kind. -/
theorem exsK_nil (G E : Bs → Int) (ws : List Bs) : exsK G E [] ws = ⟨[], ws⟩ := rfl
theorem exsK_cons (G E : Bs → Int) (x : Ex) (l : List Ex) (ws : List Bs) : exsK G E (x :: l) ws = ⟨(exK G E x ws).ins ++ (exsK G E l (exK G E x ws).ws).ins, (exsK G E l (exK G E x ws).ws).ws⟩ := rfl
theorem exK_mk (G E : Bs → Int) (k n : Int) (t : Bs) (a : List Ex) (ws : List Bs) : exK G E (.mk k n t a) ws = ⟨(exsK G E a ws).ins ++ [lastI G E k n t a.length (exsK G E a ws).ws], lastW k t (exsK G E a ws).ws⟩ := rfl
theorem stsK_nil (G E : Bs → Int) (v : Nat) (ws : List Bs) (o : Nat) : stsK G [] E v ws o = ⟨[], E, v, ws⟩ := rfl
theorem stsK_cons {G E : Bs → Int} {s : St} {l : List St} {v : Nat} {ws : List Bs} {o : Nat} {r q : KR} (h : stK G s E v ws o = r) (h2 : stsK G l r.E r.v r.ws (o + r.ins.length) = q) : stsK G (s :: l) E v ws o = ⟨r.ins ++ q.ins, q.E, q.v, q.ws⟩ := by
  subst h h2; rfl
theorem stK_let {G E : Bs → Int} {t : Bs} {a : List Ex} {x y : List St} {v : Nat} {ws : List Bs} {o : Nat} {A : XR} (h : exsK G E a ws = A) : stK G (.mk 1 t a x y) E v ws o = ⟨A.ins ++ [⟨4, v, 0⟩], upd E t v, v + 1, A.ws⟩ := by
  subst h; rw [stK]; simp
theorem stK_set {G E : Bs → Int} {t : Bs} {a : List Ex} {x y : List St} {v : Nat} {ws : List Bs} {o : Nat} {A : XR} (h : exsK G E a ws = A) : stK G (.mk 2 t a x y) E v ws o = ⟨A.ins ++ [⟨4, E t, 0⟩], E, v, A.ws⟩ := by
  subst h; rw [stK]; simp
theorem stK_if {G E : Bs → Int} {t : Bs} {a : List Ex} {x y : List St} {v : Nat} {ws : List Bs} {o : Nat} {A : XR} {X Y : KR} (h : exsK G E a ws = A) (hx : stsK G x E v A.ws (o + A.ins.length + 1) = X) (hy : stsK G y E X.v X.ws (o + A.ins.length + X.ins.length + 2) = Y) :
    stK G (.mk 3 t a x y) E v ws o = ⟨A.ins ++ ⟨16, ((o + A.ins.length + X.ins.length + 2 : Nat) : Int), 0⟩ :: (X.ins ++ ⟨15, ((o + A.ins.length + X.ins.length + 2 + Y.ins.length : Nat) : Int), 0⟩ :: Y.ins), E, Y.v, Y.ws⟩ := by
  subst h hx hy; rw [stK]; simp
theorem stK_while {G E : Bs → Int} {t : Bs} {a : List Ex} {x y : List St} {v : Nat} {ws : List Bs} {o : Nat} {A : XR} {X : KR} (h : exsK G E a ws = A) (hx : stsK G x E v A.ws (o + A.ins.length + 1) = X) :
    stK G (.mk 4 t a x y) E v ws o = ⟨A.ins ++ ⟨16, ((o + A.ins.length + X.ins.length + 2 : Nat) : Int), 0⟩ :: (X.ins ++ [⟨15, o, 0⟩]), E, X.v, X.ws⟩ := by
  subst h hx; rw [stK]; simp
theorem stK_plain {G E : Bs → Int} {k : Int} {t : Bs} {a : List Ex} {x y : List St} {v : Nat} {ws : List Bs} {o : Nat} {A : XR} (h : exsK G E a ws = A) (h1 : k ≠ 1) (h2 : k ≠ 2) (h3 : k ≠ 3) (h4 : k ≠ 4) :
    stK G (.mk k t a x y) E v ws o = ⟨A.ins ++ [⟨stOp k, 0, 0⟩], E, v, A.ws⟩ := by
  subst h; rw [stK]; simp [h1, h2, h3, h4]

/- How long it gets. -/
mutual
theorem exK_len (G E : Bs → Int) : ∀ (x : Ex) (ws : List Bs), (exK G E x ws).ins.length = exN x
  | .mk k n t a, ws => by rw [exK_mk, exN]; simp only [List.length_append, List.length_singleton, exsK_len G E a ws]; omega
theorem exsK_len (G E : Bs → Int) : ∀ (l : List Ex) (ws : List Bs), (exsK G E l ws).ins.length = exsN l
  | [], ws => by rw [exsK_nil, exsN]; rfl
  | x :: l, ws => by rw [exsK_cons, exsN]; simp only [List.length_append, exK_len G E x, exsK_len G E l]
end
theorem wput_le (ws : List Bs) (t : Bs) : (wput ws t).length ≤ ws.length + 1 := by unfold wput; split <;> simp
mutual
theorem exK_ws (G E : Bs → Int) : ∀ (x : Ex) (ws : List Bs), (exK G E x ws).ws.length ≤ ws.length + exN x
  | .mk k n t a, ws => by
    rw [exK_mk, exN]
    have := exsK_ws G E a ws
    unfold lastW
    dsimp only
    split
    · have := wput_le (exsK G E a ws).ws t; omega
    · omega
theorem exsK_ws (G E : Bs → Int) : ∀ (l : List Ex) (ws : List Bs), (exsK G E l ws).ws.length ≤ ws.length + exsN l
  | [], ws => by rw [exsK_nil, exsN]; simp
  | x :: l, ws => by rw [exsK_cons, exsN]; have := exK_ws G E x ws; have := exsK_ws G E l (exK G E x ws).ws; dsimp only; omega
end
structure KLe (r : KR) (v : Nat) (ws : List Bs) (n : Nat) : Prop where
  i : r.ins.length ≤ 2 * n
  v : r.v ≤ v + n
  w : r.ws.length ≤ ws.length + n
mutual
theorem stK_le (G : Bs → Int) : ∀ (s : St) (E : Bs → Int) (v : Nat) (ws : List Bs) (o : Nat), KLe (stK G s E v ws o) v ws (stN s)
  | .mk k t a x y, E, v, ws, o => by
    have hl := exsK_len G E a ws
    have hw := exsK_ws G E a ws
    have hN : stN (.mk k t a x y) = 1 + exsN a + stsN x + stsN y := by rw [stN]
    rw [hN]
    by_cases h1 : k = 1
    · subst h1; rw [stK_let rfl]; exact ⟨by simp [hl]; omega, by simp; omega, by simp only; omega⟩
    by_cases h2 : k = 2
    · subst h2; rw [stK_set rfl]; exact ⟨by simp [hl]; omega, by simp, by simp only; omega⟩
    by_cases h3 : k = 3
    · subst h3
      rw [stK_if rfl rfl rfl]
      have hx := stsK_le G x E v (exsK G E a ws).ws (o + (exsK G E a ws).ins.length + 1)
      have hy := stsK_le G y E (stsK G x E v (exsK G E a ws).ws (o + (exsK G E a ws).ins.length + 1)).v (stsK G x E v (exsK G E a ws).ws (o + (exsK G E a ws).ins.length + 1)).ws (o + (exsK G E a ws).ins.length + (stsK G x E v (exsK G E a ws).ws (o + (exsK G E a ws).ins.length + 1)).ins.length + 2)
      have a1 := hx.i
      have a2 := hx.v
      have a3 := hx.w
      have b1 := hy.i
      have b2 := hy.v
      have b3 := hy.w
      refine ⟨?_, ?_, ?_⟩
      · simp only [List.length_append, List.length_cons, hl] at *; omega
      · simp only at *; omega
      · simp only at *; omega
    by_cases h4 : k = 4
    · subst h4
      rw [stK_while rfl rfl]
      have hx := stsK_le G x E v (exsK G E a ws).ws (o + (exsK G E a ws).ins.length + 1)
      have a1 := hx.i
      have a2 := hx.v
      have a3 := hx.w
      refine ⟨?_, ?_, ?_⟩
      · simp only [List.length_append, List.length_cons, List.length_nil, hl] at *; omega
      · simp only at *; omega
      · simp only at *; omega
    · rw [stK_plain rfl h1 h2 h3 h4]; exact ⟨by simp [hl]; omega, by simp, by simp only; omega⟩
theorem stsK_le (G : Bs → Int) : ∀ (l : List St) (E : Bs → Int) (v : Nat) (ws : List Bs) (o : Nat), KLe (stsK G l E v ws o) v ws (stsN l)
  | [], E, v, ws, o => by rw [stsK_nil]; exact ⟨by simp, by simp, by simp⟩
  | s :: l, E, v, ws, o => by
    have h1 := stK_le G s E v ws o
    have h2 := stsK_le G l (stK G s E v ws o).E (stK G s E v ws o).v (stK G s E v ws o).ws (o + (stK G s E v ws o).ins.length)
    rw [stsK_cons rfl rfl, stsN]
    have a1 := h1.i
    have a2 := h1.v
    have a3 := h1.w
    have b1 := h2.i
    have b2 := h2.v
    have b3 := h2.w
    refine ⟨?_, ?_, ?_⟩
    · simp only [List.length_append] at *; omega
    · simp only at *; omega
    · simp only at *; omega
end

/- Names that are used are there (what a right program gives). -/
mutual
def exU (H : Bs → Nat → Prop) (nm : List Bs) : Ex → Prop
  | .mk k _ t a => (k = 3 → t ∈ nm) ∧ (k = 11 → H t a.length) ∧ exsU H nm a
def exsU (H : Bs → Nat → Prop) (nm : List Bs) : List Ex → Prop
  | [] => True
  | x :: l => exU H nm x ∧ exsU H nm l
end
mutual
def stU (H : Bs → Nat → Prop) : St → List Bs → Prop
  | .mk k t a x y => fun nm => exsU H nm a ∧ (k = 1 → t ∉ nm) ∧ (k = 2 → t ∈ nm) ∧ stsU H x (stN1 nm k t) ∧ stsU H y (stN1 nm k t)
def stsU (H : Bs → Nat → Prop) : List St → List Bs → Prop
  | [] => fun _ => True
  | .mk k t a x y :: l => fun nm => stU H (.mk k t a x y) nm ∧ stsU H l (stN1 nm k t)
end
theorem exsU_mem {H : Bs → Nat → Prop} {nm : List Bs} : ∀ {l : List Ex}, exsU H nm l → ∀ x ∈ l, exU H nm x
  | y :: l, h, x, hx => by
    rw [exsU] at h
    rcases List.mem_cons.1 hx with rfl | hx
    · exact h.1
    · exact exsU_mem h.2 x hx
def HasF (F : Bs → Option Int) (t : Bs) (n : Nat) : Prop := F t = some (n : Int)
mutual
theorem exU_of (F : Bs → Option Int) (nm : List Bs) : ∀ (x : Ex) (W : WS), (exC F nm x W).e = 0 → exU (HasF F) nm x
  | .mk k n t a, W, h => by
    rw [exC] at h
    simp only [EW.or] at h
    split at h
    · rename_i h1
      rw [exU]
      refine ⟨fun hk => ?_, fun hk => ?_, exsU_of F nm a _ h⟩
      · unfold exE at h1
        rw [if_pos hk] at h1
        by_cases hc : nm.contains t = true
        · simpa using hc
        · rw [if_neg hc] at h1; cases h1
      · unfold exE at h1
        rw [if_neg (by omega), if_pos hk] at h1
        unfold HasF
        split at h1
        · cases h1
        · rename_i m hm
          by_cases e : m = a.length
          · rw [hm, e]
          · rw [if_neg e] at h1; cases h1
    · rename_i h1; exact absurd h h1
theorem exsU_of (F : Bs → Option Int) (nm : List Bs) : ∀ (l : List Ex) (W : WS), (exsC F nm l W).e = 0 → exsU (HasF F) nm l
  | [], _, _ => by rw [exsU]; trivial
  | x :: l, W, h => by
    rw [exsC] at h
    simp only [EW.or] at h
    split at h
    · rename_i h1
      rw [exsU]
      exact ⟨exU_of F nm x W h1, exsU_of F nm l _ h⟩
    · rename_i h1; exact absurd h h1
end
mutual
theorem stU_of (F : Bs → Option Int) : ∀ (s : St) (nm : List Bs) (v : Int) (W : WS), (stC F s nm v W).e = 0 → stU (HasF F) s nm
  | .mk k t a x y, nm, v, W, h => by
    rw [stC] at h
    simp only [CR.or] at h
    split at h
    · rename_i h1
      split at h
      · rename_i h2
        split at h
        · rename_i h3
          split at h
          · rename_i h4
            rw [stU]
            refine ⟨exsU_of F nm a _ h1, fun hk => ?_, fun hk => ?_, stsU_of F x _ _ _ h3, stsU_of F y _ _ _ h4⟩
            · unfold stE at h2
              rw [if_pos hk] at h2
              by_cases hc : nm.contains t = true
              · rw [if_pos hc] at h2; cases h2
              · simpa using hc
            · unfold stE at h2
              rw [if_neg (by omega), if_pos hk] at h2
              by_cases hc : nm.contains t = true
              · simpa using hc
              · rw [if_neg hc] at h2; cases h2
          · rename_i h4; exact absurd h h4
        · rename_i h3; exact absurd h h3
      · rename_i h2; exact absurd h h2
    · rename_i h1; exact absurd h h1
theorem stsU_of (F : Bs → Option Int) : ∀ (l : List St) (nm : List Bs) (v : Int) (W : WS), (stsC F l nm v W).e = 0 → stsU (HasF F) l nm
  | [], _, _, _, _ => by rw [stsU]; trivial
  | .mk k t a x y :: l, nm, v, W, h => by
    rw [stsC] at h
    simp only [CR.or] at h
    split at h
    · rename_i h1
      rw [stsU]
      refine ⟨stU_of F _ nm v W h1, ?_⟩
      have hn : (stC F (.mk k t a x y) nm v W).nm = stN1 nm k t := by
        rw [stC] at h1 ⊢
        simp only [CR.or] at h1 ⊢
        split at h1
        · rename_i g1
          rw [if_pos g1]
          split at h1
          · rename_i g2
            rw [if_pos g2]
            split at h1
            · rename_i g3
              rw [if_pos g3]
              split at h1
              · rename_i g4
                rw [if_pos g4]
              · rename_i g4; exact absurd h1 g4
            · rename_i g3; exact absurd h1 g3
          · rename_i g2; exact absurd h1 g2
        · rename_i g1; exact absurd h1 g1
      rw [hn] at h
      exact stsU_of F l _ _ _ h
    · rename_i h1; exact absurd h h1
end
end Go.Proofs.YtpemfikdmkmgbaaDoor
end
section
/- Code and programs as the machine holds them. -/
set_option maxHeartbeats 0
set_option maxRecDepth 100000
namespace Go.Proofs.YtpemfikdmkmgbaaDoor
open Go Go.RowKit
def encI (r : In) : List Value := [.int .i64 r.op, .int .i64 r.a, .int .i64 r.b]
theorem encI_len (r : In) : (encI r).length = 3 := rfl
theorem sizeIn : (Tryd.prog.info? 59).map (fun i => (i.zero, i.size, i.bytes)) = some (some (.agg #[.int .i64 0, .int .i64 0, .int .i64 0]), 3, 24) := by kernel_rfl
theorem sizeCd : (Tryd.prog.info? 54).map (fun i => (i.zero, i.size, i.bytes)) = some (some (.agg #[.int .i64 0, .int .i64 0, .slice none 0 0]), 3, 40) := by kernel_rfl
theorem sl_elemI {w : World} {s : Slc} {rs : List In} (h : Sl encI 3 w s.v rs) {i : Nat} {r : In} (hi : rs[i]? = some r) : ∃ b off, s.a = some ⟨b, off, none⟩ ∧ b < w.heap.size ∧ w.cell? ⟨b, off + i * 3, none⟩ = some (.int .i64 r.op) ∧ w.cell? ⟨b, off + i * 3 + 1, none⟩ = some (.int .i64 r.a) ∧ w.cell? ⟨b, off + i * 3 + 2, none⟩ = some (.int .i64 r.b) := by
  obtain ⟨ao, cap, he, _, hc⟩ := h
  obtain ⟨b, off, rfl, hb, hcell⟩ := hc i r hi
  simp only [Value.slice.injEq] at he
  exact ⟨b, off, he.1, hb, hcell 0 _ rfl, hcell 1 _ rfl, hcell 2 _ rfl⟩
structure RawC where
  np : Int
  nv : Int
  s : Slc
def encC (r : RawC) : List Value := [.int .i64 r.np, .int .i64 r.nv, .slice r.s.a r.s.n r.s.c]
theorem encC_len (r : RawC) : (encC r).length = 3 := rfl
structure CdOk (w : World) (P : Nat → Prop) (r : RawC) (x : Cd) : Prop where
  np : r.np = (x.np : Nat)
  nv : r.nv = (x.nv : Nat)
  s : Sl encI 3 w r.s.v x.ins
  p : ∀ b, r.s.v.ownBlock = some b → P b
theorem cd_stays : Stays CdOk := fun _ _ _ _ _ _ _ h hf hs hm => ⟨h.np, h.nv, h.s.keep hf h.p hs, fun b hb => hm _ (h.p b hb)⟩
/-- A program as the machine holds it. -/
def PgOk (w : World) (sc sw : Slc) (P : Pg) : Prop := (∃ rs, Sl encC 3 w sc.v rs ∧ Each (CdOk w (fun k => k < w.heap.size)) rs P.cs) ∧ Sl encN 1 w sw.v P.ws ∧ (∀ b, sc.v.ownBlock = some b → b < w.heap.size) ∧ (∀ b, sw.v.ownBlock = some b → b < w.heap.size)
theorem sl_nil {α : Type} (enc : α → List Value) (sz : Nat) (w : World) : Sl enc sz w (.slice none 0 0) ([] : List α) := ⟨none, 0, rfl, by unfold maxLen; simp, fun i x h => by simp at h⟩
theorem pgOk_nil (w : World) : PgOk w nilS nilS ⟨[], []⟩ := ⟨⟨[], sl_nil _ _ _, rfl, fun i r x h => by simp at h⟩, sl_nil _ _ _, fun b h => (by cases h), fun b h => (by cases h)⟩
def MkP (w : World) (res : Pg × Int) (e : Ending) (w' : World) : Prop := ∃ sc sw : Slc, e = .returned (.tuple #[.agg #[.slice sc.a sc.n sc.c, .slice sw.a sw.n sw.c], .int .i64 res.2]) ∧ Fr nothing w w' ∧ PgOk w' sc sw res.1
theorem sl_elemC {w : World} {s : Slc} {rs : List RawC} (h : Sl encC 3 w s.v rs) {i : Nat} {r : RawC} (hi : rs[i]? = some r) : ∃ b off, s.a = some ⟨b, off, none⟩ ∧ b < w.heap.size ∧ w.cell? ⟨b, off + i * 3, none⟩ = some (.int .i64 r.np) ∧ w.cell? ⟨b, off + i * 3 + 1, none⟩ = some (.int .i64 r.nv) ∧ w.cell? ⟨b, off + i * 3 + 2, none⟩ = some (.slice r.s.a r.s.n r.s.c) := by
  obtain ⟨ao, cap, he, _, hc⟩ := h
  obtain ⟨b, off, rfl, hb, hcell⟩ := hc i r hi
  simp only [Value.slice.injEq] at he
  exact ⟨b, off, he.1, hb, hcell 0 _ rfl, hcell 1 _ rfl, hcell 2 _ rfl⟩
end Go.Proofs.YtpemfikdmkmgbaaDoor
end
section
/- Appends whose run is known; numbers as keys. -/
set_option maxHeartbeats 0
set_option maxRecDepth 100000
namespace Go.Proofs.YtpemfikdmkmgbaaDoor
open Go Go.RowKit
/-- An append whose run is known, at a plain region; as a step of one that draws its order. -/
theorem wpList_run {P : Program} {w : World} {ops : Array Oper} {rest : List Oper} {o : Oper} {a : Act} {Q : Exit → Act → World → Prop} (hgd : o.guard = none) (s x : Operand) (t : TypeId) (ho : o.op = .call { callee := .builtin .append, args := #[s, x], argTypes := #[t, t] }) (v u : Value) (hs : a.eval s = v) (hx : a.eval x = u) {r : Value} {w' : World} (hrun : (Builtin.append_ #[t, t] o.type #[v, u]).run P w = .ok r w') (h : wpList P ops Q rest (a.put o.dst r) w') : wpList P ops Q (o :: rest) a w :=
  wpList_plain hgd fun K hK => by
    unfold Oper.wp execOp
    simp only [ho, resolve, invoke, builtin, Sem.run_bind, Sem.run_pure, Result.andThen_ok, List.map_toArray, List.map_cons, List.map_nil, hs, hx, hrun]
    exact hK _ _ h
theorem step_run {P : Program} {w : World} {ops : Array Oper} {o : Oper} {a : Act} {K : Act → World → Prop} {Q : Exit → Act → World → Prop} {E : Prop} (hgd : o.guard = none) (s x : Operand) (t : TypeId) (ho : o.op = .call { callee := .builtin .append, args := #[s, x], argTypes := #[t, t] }) (v u : Value) (hs : a.eval s = v) (hx : a.eval x = u) {r : Value} {w' : World} (hrun : (Builtin.append_ #[t, t] o.type #[v, u]).run P w = .ok r w') (h : K (a.put o.dst r) w') :
    if Region.wanted o (yielded ops a.tmps) = true then Oper.wp P o a w K Q else E := by
  have hw : Region.wanted o (yielded ops a.tmps) = true := by simp [Region.wanted, hgd]
  rw [if_pos hw]
  unfold Oper.wp execOp
  simp only [ho, resolve, invoke, builtin, Sem.run_bind, Sem.run_pure, Result.andThen_ok, List.map_toArray, List.map_cons, List.map_nil, hs, hx, hrun]
  exact h
theorem law3 : Maps.Keyed Tryd.prog 3 := Maps.int_keyed Tryd.underlying3
theorem key3 (k : Int) (h0 : -9223372036854775808 ≤ k) (h1 : k ≤ 9223372036854775807) : keyOf Tryd.prog 3 (.int .i64 k) = some (.int .i64 k) := Maps.keyOf_int_mk Tryd.underlying3 (by simp [Lit.wf, IntKind.min, IntKind.max, IntKind.signed, IntKind.bits]; omega)
/-- One cell of a block. -/
theorem set_one (w : World) (b j : Nat) (u : Value) {old : Value} (ho : w.cell? ⟨b, j, none⟩ = some old) :
    (w.setCell ⟨b, j, none⟩ u).cell? ⟨b, j, none⟩ = some u ∧ (∀ i, i ≠ j → (w.setCell ⟨b, j, none⟩ u).cell? ⟨b, i, none⟩ = w.cell? ⟨b, i, none⟩) ∧ Fr (fun k => k = b) w (w.setCell ⟨b, j, none⟩ u) :=
  ⟨World.cell?_setCell_same _ _ _ ho, fun i hi => World.cell?_setCell_other w ⟨b, j, none⟩ ⟨b, i, none⟩ _ (by first | (simp; done) | (simp; omega)), (Fr.refl (fun k => k = b) w).setCell (p := ⟨b, j, none⟩) (.inl rfl) u⟩
end Go.Proofs.YtpemfikdmkmgbaaDoor
end
section
/- The document's own answer: what an op takes and leaves. -/
set_option maxHeartbeats 0
set_option maxRecDepth 100000
namespace Go.Proofs.YtpemfikdmkmgbaaDoor
open Go Go.RowKit
abbrev pv (p : Int × Int) : Value := .agg #[.int .i64 p.1, .int .i64 p.2]
def pL : List Value → Option (DataW Unit × List MemPlace)
  | [.int .i64 a, .int .i64 b] => some (.agg [.lit (.int .i64 a), .lit (.int .i64 b)], [])
  | _ => none
def pE : Value → Option (DataW Unit × List MemPlace)
  | .agg cs => pL cs.toList
  | _ => none
def pD (p : Int × Int) : DataW Unit := .agg [.lit (.int .i64 p.1), .lit (.int .i64 p.2)]
theorem pE_pv (p : Int × Int) : pE (pv p) = some (pD p, []) := rfl
theorem pL_inv {l : List Value} {p : Int × Int} {ps : List MemPlace} (h : pL l = some (pD p, ps)) : l = [.int .i64 p.1, .int .i64 p.2] := by
  unfold pL at h
  split at h
  · simp only [pD, Option.some.injEq, Prod.mk.injEq, DataW.agg.injEq, List.cons.injEq, DataW.lit.injEq, Lit.int.injEq, true_and, and_true] at h
    obtain ⟨⟨h1, h2⟩, _⟩ := h
    rw [h1, h2]
  · cases h
theorem pE_inv {v : Value} {p : Int × Int} {ps : List MemPlace} (h : pE v = some (pD p, ps)) : v = pv p := by
  unfold pE at h
  split at h
  · have := pL_inv h
    rename_i cs
    obtain ⟨l⟩ := cs
    simp only at this
    subst this
    rfl
  · cases h
def PD : List (Int × Int × Int) → DataW Unit
  | [] => .map []
  | p :: l => (PD l).put (.int .i64 p.1) (pD p.2)
theorem PD_map : ∀ l, Maps.IsMap (PD l)
  | [] => ⟨[], rfl⟩
  | _ :: l => (PD_map l).put _ _
theorem PD_at (k : Int) : ∀ l, (PD l).atKey (.int .i64 k) (pD (0, 0)) = pD (((l.find? fun p => p.1 == k).map Prod.snd).getD (0, 0))
  | [] => rfl
  | p :: l => by
    by_cases h : p.1 = k
    · subst h
      show ((PD l).put _ _).atKey _ _ = _
      rw [Maps.atKey_put_same (PD_map l) (by trivial)]
      simp
    · show ((PD l).put _ _).atKey _ _ = _
      rw [Maps.atKey_put_other (by intro e; exact h (by cases e; rfl)), PD_at k l]
      have : (p.1 == k) = false := by simpa using h
      simp [this]
theorem zeroA2 (w : World) : (zeroValue 99).run Tryd.prog w = .ok (pv (0, 0)) w := by
  kernel_rfl
def shapesL : List (Int × Int × Int) := [(19, 1, 0), (18, 1, 0), (16, 1, 0), (15, 0, 0), (14, 1, 0), (13, 1, 1), (12, 0, 1), (11, 1, 1), (10, 2, 0), (9, 2, 0), (8, 1, 1), (7, 1, 1), (6, 2, 1), (5, 2, 1), (4, 1, 0), (3, 0, 1), (2, 0, 1), (1, 0, 1)]
/-- What an op takes, and leaves. -/
def shapeC (i : In) : Int × Int := if i.op = 17 then (i.b, 1) else ((shapesL.find? fun p => p.1 == i.op).map Prod.snd).getD (0, 0)
theorem shape_any (i : In) (w : World) (h0 : -9223372036854775808 ≤ i.op) (h1 : i.op ≤ 9223372036854775807) :
    Calls Tryd.prog 22 #[.agg #[.int .i64 i.op, .int .i64 i.a, .int .i64 i.b]] w fun e w' => e = .returned (.tuple #[.int .i64 (shapeC i).1, .int .i64 (shapeC i).2]) ∧ Fr nothing w w' := by
  have hmm := @run_makeMap Tryd.prog
  have hF0 : Fr nothing w (w.alloc (.cells #[.int .i64 i.op, .int .i64 i.a, .int .i64 i.b] 59)) := (Fr.refl _ _).alloc _
  have hc := made_cells (Fr.refl nothing (w.alloc (.cells #[.int .i64 i.op, .int .i64 i.a, .int .i64 i.b] 59))) id
  have c0 := hc.1 0
  have c1 := hc.1 1
  have c2 := hc.1 2
  have cl := hc.2.2
  by_cases h17 : i.op = 17
  · have e : shapeC i = (i.b, 1) := by unfold shapeC; rw [if_pos h17]
    rw [e]
    have HF := hide hF0
    rw [h17] at c0 c1 c2 cl HF ⊢
    clear hF0 hc e hmm
    go_enter Tryd.func22, Tryd.ntmps22
    go_wp2
    exact bodyPost_ret (v := .tuple #[.int .i64 i.b, .int .i64 1]) (by simp [results, Tryd.results22, go_sem]) rfl ⟨rfl, HF.out⟩
  have e : shapeC i = ((shapesL.find? fun p => p.1 == i.op).map Prod.snd).getD (0, 0) := by unfold shapeC; rw [if_neg h17]
  have h17b : (i.op == 17) = false := by simpa using h17
  obtain ⟨w0, hw0⟩ : ∃ w0, w0 = w.alloc (.cells #[.int .i64 i.op, .int .i64 i.a, .int .i64 i.b] 59) := ⟨_, rfl⟩
  rw [← hw0] at hF0 c0 c1 c2 cl
  have s1 : w0.heap.size = w.heap.size + 1 := by rw [hw0]; simp
  have m0 := World.ownsMap_made w0 Tryd.prog 3 pE
  obtain ⟨w1, r1, m1, g1⟩ := World.ownsMap.update m0 law3 Tryd.underlying100 (by unfold maxLen; omega) (key3 1 (by decide) (by decide)) (show pE (.agg #[.int .i64 0, .int .i64 1]) = some (pD (0, 1), []) from rfl)
  obtain ⟨w2, r2, m2, g2⟩ := World.ownsMap.update m1 law3 Tryd.underlying100 (by unfold maxLen; omega) (key3 2 (by decide) (by decide)) (show pE (.agg #[.int .i64 0, .int .i64 1]) = some (pD (0, 1), []) from rfl)
  obtain ⟨w3, r3, m3, g3⟩ := World.ownsMap.update m2 law3 Tryd.underlying100 (by unfold maxLen; omega) (key3 3 (by decide) (by decide)) (show pE (.agg #[.int .i64 0, .int .i64 1]) = some (pD (0, 1), []) from rfl)
  obtain ⟨w4, r4, m4, g4⟩ := World.ownsMap.update m3 law3 Tryd.underlying100 (by unfold maxLen; omega) (key3 4 (by decide) (by decide)) (show pE (.agg #[.int .i64 1, .int .i64 0]) = some (pD (1, 0), []) from rfl)
  obtain ⟨w5, r5, m5, g5⟩ := World.ownsMap.update m4 law3 Tryd.underlying100 (by unfold maxLen; omega) (key3 5 (by decide) (by decide)) (show pE (.agg #[.int .i64 2, .int .i64 1]) = some (pD (2, 1), []) from rfl)
  obtain ⟨w6, r6, m6, g6⟩ := World.ownsMap.update m5 law3 Tryd.underlying100 (by unfold maxLen; omega) (key3 6 (by decide) (by decide)) (show pE (.agg #[.int .i64 2, .int .i64 1]) = some (pD (2, 1), []) from rfl)
  obtain ⟨w7, r7, m7, g7⟩ := World.ownsMap.update m6 law3 Tryd.underlying100 (by unfold maxLen; omega) (key3 7 (by decide) (by decide)) (show pE (.agg #[.int .i64 1, .int .i64 1]) = some (pD (1, 1), []) from rfl)
  obtain ⟨w8, r8, m8, g8⟩ := World.ownsMap.update m7 law3 Tryd.underlying100 (by unfold maxLen; omega) (key3 8 (by decide) (by decide)) (show pE (.agg #[.int .i64 1, .int .i64 1]) = some (pD (1, 1), []) from rfl)
  obtain ⟨w9, r9, m9, g9⟩ := World.ownsMap.update m8 law3 Tryd.underlying100 (by unfold maxLen; omega) (key3 9 (by decide) (by decide)) (show pE (.agg #[.int .i64 2, .int .i64 0]) = some (pD (2, 0), []) from rfl)
  obtain ⟨w10, r10, m10, g10⟩ := World.ownsMap.update m9 law3 Tryd.underlying100 (by unfold maxLen; omega) (key3 10 (by decide) (by decide)) (show pE (.agg #[.int .i64 2, .int .i64 0]) = some (pD (2, 0), []) from rfl)
  obtain ⟨w11, r11, m11, g11⟩ := World.ownsMap.update m10 law3 Tryd.underlying100 (by unfold maxLen; omega) (key3 11 (by decide) (by decide)) (show pE (.agg #[.int .i64 1, .int .i64 1]) = some (pD (1, 1), []) from rfl)
  obtain ⟨w12, r12, m12, g12⟩ := World.ownsMap.update m11 law3 Tryd.underlying100 (by unfold maxLen; omega) (key3 12 (by decide) (by decide)) (show pE (.agg #[.int .i64 0, .int .i64 1]) = some (pD (0, 1), []) from rfl)
  obtain ⟨w13, r13, m13, g13⟩ := World.ownsMap.update m12 law3 Tryd.underlying100 (by unfold maxLen; omega) (key3 13 (by decide) (by decide)) (show pE (.agg #[.int .i64 1, .int .i64 1]) = some (pD (1, 1), []) from rfl)
  obtain ⟨w14, r14, m14, g14⟩ := World.ownsMap.update m13 law3 Tryd.underlying100 (by unfold maxLen; omega) (key3 14 (by decide) (by decide)) (show pE (.agg #[.int .i64 1, .int .i64 0]) = some (pD (1, 0), []) from rfl)
  obtain ⟨w15, r15, m15, g15⟩ := World.ownsMap.update m14 law3 Tryd.underlying100 (by unfold maxLen; omega) (key3 15 (by decide) (by decide)) (show pE (.agg #[.int .i64 0, .int .i64 0]) = some (pD (0, 0), []) from rfl)
  obtain ⟨w16, r16, m16, g16⟩ := World.ownsMap.update m15 law3 Tryd.underlying100 (by unfold maxLen; omega) (key3 16 (by decide) (by decide)) (show pE (.agg #[.int .i64 1, .int .i64 0]) = some (pD (1, 0), []) from rfl)
  obtain ⟨w17, r17, m17, g17⟩ := World.ownsMap.update m16 law3 Tryd.underlying100 (by unfold maxLen; omega) (key3 18 (by decide) (by decide)) (show pE (.agg #[.int .i64 1, .int .i64 0]) = some (pD (1, 0), []) from rfl)
  obtain ⟨w18, r18, m18, g18⟩ := World.ownsMap.update m17 law3 Tryd.underlying100 (by unfold maxLen; omega) (key3 19 (by decide) (by decide)) (show pE (.agg #[.int .i64 1, .int .i64 0]) = some (pD (1, 0), []) from rfl)
  have HF : Hid (Fr nothing w w18) := by
    have F0 : Fr (fun j => j = w0.heap.size) (w0.alloc (.map #[] 0)) (w0.alloc (.map #[] 0)) := Fr.refl _ _
    have F1 := F0.grown g1 (fun k hk => .inl (by simpa using hk.symm))
    have F2 := F1.grown g2 (fun k hk => .inl (by simpa using hk.symm))
    have F3 := F2.grown g3 (fun k hk => .inl (by simpa using hk.symm))
    have F4 := F3.grown g4 (fun k hk => .inl (by simpa using hk.symm))
    have F5 := F4.grown g5 (fun k hk => .inl (by simpa using hk.symm))
    have F6 := F5.grown g6 (fun k hk => .inl (by simpa using hk.symm))
    have F7 := F6.grown g7 (fun k hk => .inl (by simpa using hk.symm))
    have F8 := F7.grown g8 (fun k hk => .inl (by simpa using hk.symm))
    have F9 := F8.grown g9 (fun k hk => .inl (by simpa using hk.symm))
    have F10 := F9.grown g10 (fun k hk => .inl (by simpa using hk.symm))
    have F11 := F10.grown g11 (fun k hk => .inl (by simpa using hk.symm))
    have F12 := F11.grown g12 (fun k hk => .inl (by simpa using hk.symm))
    have F13 := F12.grown g13 (fun k hk => .inl (by simpa using hk.symm))
    have F14 := F13.grown g14 (fun k hk => .inl (by simpa using hk.symm))
    have F15 := F14.grown g15 (fun k hk => .inl (by simpa using hk.symm))
    have F16 := F15.grown g16 (fun k hk => .inl (by simpa using hk.symm))
    have F17 := F16.grown g17 (fun k hk => .inl (by simpa using hk.symm))
    have F18 := F17.grown g18 (fun k hk => .inl (by simpa using hk.symm))
    exact (hF0.alloc _).then F18 (fun k hk e => by omega)
  have hF0n : Fr nothing w0 w18 := by
    have F0 : Fr (fun j => j = w0.heap.size) (w0.alloc (.map #[] 0)) (w0.alloc (.map #[] 0)) := Fr.refl _ _
    have F1 := F0.grown g1 (fun k hk => .inl (by simpa using hk.symm))
    have F2 := F1.grown g2 (fun k hk => .inl (by simpa using hk.symm))
    have F3 := F2.grown g3 (fun k hk => .inl (by simpa using hk.symm))
    have F4 := F3.grown g4 (fun k hk => .inl (by simpa using hk.symm))
    have F5 := F4.grown g5 (fun k hk => .inl (by simpa using hk.symm))
    have F6 := F5.grown g6 (fun k hk => .inl (by simpa using hk.symm))
    have F7 := F6.grown g7 (fun k hk => .inl (by simpa using hk.symm))
    have F8 := F7.grown g8 (fun k hk => .inl (by simpa using hk.symm))
    have F9 := F8.grown g9 (fun k hk => .inl (by simpa using hk.symm))
    have F10 := F9.grown g10 (fun k hk => .inl (by simpa using hk.symm))
    have F11 := F10.grown g11 (fun k hk => .inl (by simpa using hk.symm))
    have F12 := F11.grown g12 (fun k hk => .inl (by simpa using hk.symm))
    have F13 := F12.grown g13 (fun k hk => .inl (by simpa using hk.symm))
    have F14 := F13.grown g14 (fun k hk => .inl (by simpa using hk.symm))
    have F15 := F14.grown g15 (fun k hk => .inl (by simpa using hk.symm))
    have F16 := F15.grown g16 (fun k hk => .inl (by simpa using hk.symm))
    have F17 := F16.grown g17 (fun k hk => .inl (by simpa using hk.symm))
    have F18 := F17.grown g18 (fun k hk => .inl (by simpa using hk.symm))
    exact ((Fr.refl nothing w0).alloc _).then F18 (fun k hk e => by omega)
  have hlk : (Instr.lookup 100 (.map (some w0.heap.size)) (.int .i64 i.op) false).run Tryd.prog w18 = .ok (pv (shapeC i)) w18 := by
    obtain ⟨v, ps, hrun, hv⟩ := World.ownsMap.lookup m18 law3 Tryd.underlying100 (zeroA2 w18) (pE_pv (0, 0)) (key3 i.op h0 h1)
    have hv' : pE v = some (pD (shapeC i), ps) := by
      rw [e]
      rw [← PD_at]
      exact hv
    rw [hrun, pE_inv hv']
  obtain ⟨sp, hsp⟩ : ∃ sp, shapeC i = sp := ⟨_, rfl⟩
  rw [hsp] at hlk ⊢
  have x0 := (hF0n.cell (p := ⟨w.heap.size, 0, none⟩) cl id).trans c0
  have xl := Nat.lt_of_lt_of_le cl hF0n.size
  have hm2 := made_cells (Fr.refl nothing (w18.alloc (.cells #[.int .i64 sp.1, .int .i64 sp.2] 99))) id
  have hF3 : Hid (Fr nothing w (w18.alloc (.cells #[.int .i64 sp.1, .int .i64 sp.2] 99))) := HF.out.alloc _
  have y0 := hm2.1 0
  have y1 := hm2.1 1
  have yl := hm2.2.2
  have hw0' : w.alloc (.cells #[.int .i64 i.op, .int .i64 i.a, .int .i64 i.b] 59) = w0 := hw0.symm
  clear hF0 hc e HF hF0n hm2 s1 hw0 m0 m1 m2 m3 m4 m5 m6 m7 m8 m9 m10 m11 m12 m13 m14 m15 m16 m17 m18 g1 g2 g3 g4 g5 g6 g7 g8 g9 g10 g11 g12 g13 g14 g15 g16 g17 g18
  go_enter Tryd.func22, Tryd.ntmps22
  go_wp2
  refine wp_region_held_drew (S := fun w' => w'.cell? ⟨w18.heap.size, 0, none⟩ = some (.int .i64 sp.1) ∧ w'.cell? ⟨w18.heap.size, 1, none⟩ = some (.int .i64 sp.2)) (by kernel_rfl) ⟨y0, y1⟩ (fun hHeld => ?_)
  refine wpAnyH_take (i := 0) (oi := { dst := some 33, op := Op.indexAddr 99 (Operand.tmp 4) (Operand.const (Value.int IntKind.i64 0)), type := 0, pos := "ref.go:15", after := #[], guard := none }) (v := ?v1) rfl (by kernel_rfl) (by kernel_rfl) (by kernel_rfl) (fun _ _ _ h => h) (Or.inl ⟨by rfl, ?hy1⟩) (by assumption) ?rest1
  case hy1 => (intro w hSw; (try dsimp only at hSw); obtain ⟨hS1, hS2⟩ := hSw; go_simp; try with_reducible rfl)
  try simp only [Act.put, List.setIfInBounds_toArray, List.set_cons_zero, List.set_cons_succ]
  refine wpAnyH_take (i := 1) (oi := { dst := some 34, op := Op.load 3 (Operand.tmp 33), type := 3, pos := "ref.go:15", after := #[{ on := 0, ground := Ground.data }], guard := none }) (v := ?v2) rfl (by kernel_rfl) (by kernel_rfl) (by kernel_rfl) (fun _ _ _ h => h) (Or.inl ⟨by rfl, ?hy2⟩) (by assumption) ?rest2
  case hy2 => (intro w hSw; (try dsimp only at hSw); obtain ⟨hS1, hS2⟩ := hSw; go_simp; try with_reducible rfl)
  try simp only [Act.put, List.setIfInBounds_toArray, List.set_cons_zero, List.set_cons_succ]
  refine wpAnyH_take (i := 2) (oi := { dst := some 35, op := Op.indexAddr 99 (Operand.tmp 4) (Operand.const (Value.int IntKind.i64 1)), type := 0, pos := "ref.go:15", after := #[{ on := 4, ground := Ground.gcOnly Departure.lateStores }], guard := none }) (v := ?v3) rfl (by kernel_rfl) (by kernel_rfl) (by kernel_rfl) (fun _ _ _ h => h) (Or.inl ⟨by rfl, ?hy3⟩) (by assumption) ?rest3
  case hy3 => (intro w hSw; (try dsimp only at hSw); obtain ⟨hS1, hS2⟩ := hSw; go_simp; try with_reducible rfl)
  try simp only [Act.put, List.setIfInBounds_toArray, List.set_cons_zero, List.set_cons_succ]
  refine wpAnyH_take (i := 3) (oi := { dst := some 36, op := Op.load 3 (Operand.tmp 35), type := 3, pos := "ref.go:15", after := #[{ on := 2, ground := Ground.data }, { on := 4, ground := Ground.gcOnly Departure.lateStores }], guard := none }) (v := ?v4) rfl (by kernel_rfl) (by kernel_rfl) (by kernel_rfl) (fun _ _ _ h => h) (Or.inl ⟨by rfl, ?hy4⟩) (by assumption) ?rest4
  case hy4 => (intro w hSw; (try dsimp only at hSw); obtain ⟨hS1, hS2⟩ := hSw; go_simp; try with_reducible rfl)
  try simp only [Act.put, List.setIfInBounds_toArray, List.set_cons_zero, List.set_cons_succ]
  refine wpAnyH_take (i := 4) (oi := { dst := some 2, op := Op.assign (Operand.tmp 34), type := 3, pos := "ref.go:15", after := #[{ on := 1, ground := Ground.data }, { on := 0, ground := Ground.phase }, { on := 1, ground := Ground.phase }, { on := 2, ground := Ground.textOnly Departure.lateStores }, { on := 3, ground := Ground.textOnly Departure.lateStores }], guard := none }) (v := ?v5) rfl (by kernel_rfl) (by kernel_rfl) (by kernel_rfl) (fun _ _ _ h => h) (Or.inl ⟨by rfl, ?hy5⟩) (by assumption) ?rest5
  case hy5 => (intro w hSw; (try dsimp only at hSw); obtain ⟨hS1, hS2⟩ := hSw; go_simp; try with_reducible rfl)
  try simp only [Act.put, List.setIfInBounds_toArray, List.set_cons_zero, List.set_cons_succ]
  refine wpAnyH_take (i := 5) (oi := { dst := some 3, op := Op.assign (Operand.tmp 36), type := 3, pos := "ref.go:15", after := #[{ on := 3, ground := Ground.data }, { on := 4, ground := Ground.chain }, { on := 0, ground := Ground.phase }, { on := 1, ground := Ground.phase }, { on := 2, ground := Ground.phase }, { on := 3, ground := Ground.phase }, { on := 4, ground := Ground.phase }], guard := none }) (v := ?v6) rfl (by kernel_rfl) (by kernel_rfl) (by kernel_rfl) (fun _ _ _ h => h) (Or.inl ⟨by rfl, ?hy6⟩) (by assumption) ?rest6
  case hy6 => (intro w hSw; (try dsimp only at hSw); obtain ⟨hS1, hS2⟩ := hSw; go_simp; try with_reducible rfl)
  try simp only [Act.put, List.setIfInBounds_toArray, List.set_cons_zero, List.set_cons_succ]
  refine wpAnyH_done (by kernel_rfl) ?_ _
  go_wp2_with fail
  exact bodyPost_ret (v := .tuple #[.int .i64 sp.1, .int .i64 sp.2]) (by simp [results, Tryd.results22, go_sem]) rfl ⟨rfl, hF3.out.drew⟩
end Go.Proofs.YtpemfikdmkmgbaaDoor
end
section
/- The document's own answer: heights: as a function; what lies there. -/
set_option maxHeartbeats 0
set_option maxRecDepth 100000
namespace Go.Proofs.YtpemfikdmkmgbaaDoor
open Go Go.RowKit
/-- The least number of which something holds. -/
theorem least_ex (P : Nat → Prop) : ∀ n, P n → ∃ m, P m ∧ ∀ k, P k → m ≤ k := by
  intro n
  induction n using Nat.strongRecOn with
  | ind n ih =>
    intro hn
    by_cases h : ∃ k, k < n ∧ P k
    · obtain ⟨k, h1, h2⟩ := h
      exact ih k h1 h2
    · refine ⟨n, hn, fun k hk => ?_⟩
      apply Classical.byContradiction
      intro hlt
      exact h ⟨k, by omega, hk⟩
open Classical in
noncomputable def least (P : Nat → Prop) : Nat := if h : ∃ m, P m ∧ ∀ k, P k → m ≤ k then h.choose else 0
theorem least_spec {P : Nat → Prop} (h : ∃ n, P n) : P (least P) ∧ ∀ k, P k → least P ≤ k := by
  obtain ⟨n, hn⟩ := h
  have h := least_ex P n hn
  unfold least
  rw [dif_pos h]
  exact h.choose_spec
theorem least_lt {P : Nat → Prop} {m k : Nat} (h : P m) (hk : m < k) : least P < k := Nat.lt_of_le_of_lt ((least_spec ⟨m, h⟩).2 m h) hk
/-- What is next. -/
def nextC (i : In) (p m : Int) : List (Int × Int) := (if i.op ≠ 15 ∧ i.op ≠ 18 then [(p + 1, m)] else []) ++ (if i.op = 15 ∨ i.op = 16 then [(i.a, m)] else [])
def hGo (ins : List In) : Nat → List Int → List (Int × Int) → List Int × Int
  | 0, h, _ => (h, 0)
  | _ + 1, h, [] => (h, 0)
  | f + 1, h, (p, n) :: q =>
    if p < 0 ∨ h.length ≤ p then ([], 8)
    else if 0 ≤ h.getD p.toNat 0 ∧ h.getD p.toNat 0 ≠ n then ([], 10)
    else if 0 ≤ h.getD p.toNat 0 then hGo ins f h q
    else if n < (shapeC (ins.getD p.toNat ⟨0, 0, 0⟩)).1 ∨ ((ins.getD p.toNat ⟨0, 0, 0⟩).op = 18 ∧ 1 < n) then ([], 10)
    else if 16 < n - (shapeC (ins.getD p.toNat ⟨0, 0, 0⟩)).1 + (shapeC (ins.getD p.toNat ⟨0, 0, 0⟩)).2 then ([], 4)
    else hGo ins f (h.set p.toNat n) (q ++ nextC (ins.getD p.toNat ⟨0, 0, 0⟩) p (n - (shapeC (ins.getD p.toNat ⟨0, 0, 0⟩)).1 + (shapeC (ins.getD p.toNat ⟨0, 0, 0⟩)).2))
def heightsC (ins : List In) : List Int × Int := hGo ins (2 * ins.length + 2) (List.replicate ins.length (-1)) [(0, 0)]
def unset (h : List Int) : Nat := (h.filter (fun x => decide (x < 0))).length
theorem unset_set : ∀ (h : List Int) (i : Nat) (x n : Int), h[i]? = some x → x < 0 → 0 ≤ n → unset (h.set i n) + 1 = unset h
  | [], i, x, n, hi, _, _ => by simp at hi
  | y :: h, 0, x, n, hi, hx, hn => by
    simp at hi
    subst hi
    have h1 : ¬ n < 0 := by omega
    simp [unset, hx, h1]
  | y :: h, i + 1, x, n, hi, hx, hn => by
    have ih := unset_set h i x n (by simpa using hi) hx hn
    unfold unset at ih ⊢
    rw [List.set_cons_succ, List.filter_cons, List.filter_cons]
    by_cases hy : y < 0
    · simp only [hy, decide_true, if_true, List.length_cons]; omega
    · simp only [hy, decide_false, Bool.false_eq_true, if_false]; omega
theorem unset_le (h : List Int) : unset h ≤ h.length := List.length_filter_le _ _
/-- What an op takes is not less than nothing. -/
theorem shape_pos (i : In) (hb : i.op = 17 → 0 ≤ i.b) : 0 ≤ (shapeC i).1 ∧ 0 ≤ (shapeC i).2 ∧ (shapeC i).2 ≤ 1 := by
  unfold shapeC
  by_cases h : i.op = 17
  · rw [if_pos h]; exact ⟨hb h, Int.one_nonneg, Int.le_refl 1⟩
  · rw [if_neg h]
    generalize i.op = k
    unfold shapesL
    simp only [List.find?]
    repeat' split
    all_goals (refine ⟨?_, ?_, ?_⟩ <;> decide)
/-- Rows of numbers. -/
def encZ (z : Int) : List Value := [.int .i64 z]
theorem encZ_len (z : Int) : (encZ z).length = 1 := rfl
structure OwnZ (base : Nat) (q : Slc) (l : List Int) (w : World) : Prop where
  n : q.n = l.length
  row : w.ownsRow base 3 1 q.v l.length (l.flatMap encZ)
theorem OwnZ.sl {base : Nat} {q : Slc} {l : List Int} {w : World} (h : OwnZ base q l w) : Sl encZ 1 w q.v l := sl_of_owns encZ_len h.row
theorem OwnZ.fr {base : Nat} {q : Slc} {l : List Int} {w w' : World} {S : Nat → Prop} (h : OwnZ base q l w) (hf : Fr S w w') (hs : ∀ b, q.v.ownBlock = some b → ¬ S b) : OwnZ base q l w' := ⟨h.n, owns_fr h.row hf hs⟩
theorem OwnZ.lt {base : Nat} {q : Slc} {l : List Int} {w : World} (h : OwnZ base q l w) {b : Nat} (hb : q.v.ownBlock = some b) : base ≤ b ∧ b < w.heap.size := h.row.lt b hb
theorem sizeInt : (Tryd.prog.info? 3).map (fun i => (i.zero, i.size, i.bytes)) = some (some (.int .i64 0), 1, 8) := by kernel_rfl
abbrev litZ (z : Int) : Obj := .cells #[.int .i64 z] 3
theorem OwnZ.lit (w : World) (z : Int) {base : Nat} (hb : base ≤ w.heap.size) : OwnZ base ⟨some ⟨w.heap.size, 0, none⟩, 1, 1⟩ [z] (w.alloc (litZ z)) :=
  ⟨rfl, World.ownsRow_lit (e := 3) w #[.int .i64 z] 1 (size := 1) (base := base) hb (by unfold maxLen; omega) rfl⟩
/-- A number behind a row: the number lies in a block of its own. -/
theorem OwnZ.app {base : Nat} {q : Slc} {l : List Int} {w : World} (h : OwnZ base q l w) (z : Int) (hb : base ≤ w.heap.size) (hl : l.length ≤ 1000000) :
    ∃ (q' : Slc) (w' : World), (Builtin.append_ #[49, 49] 49 #[.slice q.a q.n q.c, .slice (some ⟨w.heap.size, 0, none⟩) 1 1]).run Tryd.prog (w.alloc (litZ z)) = .ok (.slice q'.a q'.n q'.c) w' ∧ OwnZ base q' (l ++ [z]) w' ∧ Fr (fun k => q.v.ownBlock = some k) w w' ∧ (∀ b, q'.v.ownBlock = some b → q.v.ownBlock = some b ∨ w.heap.size < b) := by
  obtain ⟨j0, hj0, hy0, hy1, hy2⟩ := info_parts sizeInt
  have FL : Fr nothing w (w.alloc (litZ z)) := (Fr.refl _ _).alloc _
  have h1 := h.fr FL (fun _ _ => id)
  have hm := made_cells (Fr.refl nothing (w.alloc (litZ z))) id
  have hsz : (w.alloc (litZ z)).heap.size = w.heap.size + 1 := by simp
  obtain ⟨g, cap, w', hr, h2, h3, h4, h5⟩ := run_append_lies (P := Tryd.prog) (w.alloc (litZ z)) 49 49 base 3 j0 _ 1 8 Tryd.underlying49 hj0 hy0 hy1 hy2 rfl (by decide) q.v l.length _ h1.row ⟨w.heap.size, 0, none⟩ 1 1 (encZ z) rfl (fun j u hj => by
      cases j with
      | zero => simp [encZ] at hj; subst hj; exact hm.1 0
      | succ j => simp [encZ] at hj) (fun u hu => by
      simp only [encZ, List.mem_cons, List.not_mem_nil, or_false] at hu
      subst hu
      rfl) (by decide) (by unfold maxLen; omega) (by omega) (Nat.le_trans hb FL.size) _ rfl
  refine ⟨⟨some ⟨g, 0, none⟩, l.length + 1, cap⟩, w', hr, ⟨by simp, by simpa [List.flatMap_append] using h2⟩, (FL.mono (fun _ _ e => e.elim)).trans ((Fr.refl _ _).grown h3 (fun k hk => .inl hk)), fun b hb' => ?_⟩
  obtain rfl : g = b := Option.some.inj hb'
  exact h4.imp id (fun e => by omega)
/-- What lies there while heights are told. -/
structure HSt (w0 : World) (hb cb : Nat) (ca : Value) (h A B : List Int) (qa qh : Slc) (w : World) : Prop where
  f : Fr nothing w0 w
  a : OwnZ w0.heap.size qa A w
  b : OwnZ w0.heap.size qh B w
  hr : w.ownsRow w0.heap.size 3 1 (.slice (some ⟨hb, 0, none⟩) h.length h.length) h.length (h.flatMap encZ)
  c : w.cell? ⟨cb, 2, none⟩ = some ca
  n : w0.heap.size ≤ cb ∧ cb ≠ hb
  da : ∀ k, qa.v.ownBlock = some k → k ≠ hb ∧ k ≠ cb ∧ qh.v.ownBlock ≠ some k
  db : ∀ k, qh.v.ownBlock = some k → k ≠ hb ∧ k ≠ cb
section
variable {w0 w w2 : World} {hb cb : Nat} {ca : Value} {h A B : List Int} {qa qh : Slc}
theorem HSt.cl (s : HSt w0 hb cb ca h A B qa qh w) : cb < w.heap.size := lt_of_cell s.c
theorem HSt.hl (s : HSt w0 hb cb ca h A B qa qh w) : w0.heap.size ≤ hb ∧ hb < w.heap.size := s.hr.lt hb rfl
theorem HSt.new (s : HSt w0 hb cb ca h A B qa qh w) (hf : Fr nothing w w2) : HSt w0 hb cb ca h A B qa qh w2 :=
  ⟨s.f.trans hf, s.a.fr hf (fun _ _ => id), s.b.fr hf (fun _ _ => id), owns_fr s.hr hf (fun _ _ => id), (hf.cell (p := ⟨cb, 2, none⟩) s.cl id).trans s.c, s.n, s.da, s.db⟩
theorem flatZ : ∀ l : List Int, l.flatMap encZ = l.map (Value.int .i64)
  | [] => rfl
  | x :: l => by simp [encZ, ← flatZ l]
theorem HSt.put (s : HSt w0 hb cb ca h A B qa qh w) (i : Nat) (z : Int) : HSt w0 hb cb ca (h.set i z) A B qa qh (w.setCell ⟨hb, i, none⟩ (.int .i64 z)) ∧ Fr (fun k => k = hb) w (w.setCell ⟨hb, i, none⟩ (.int .i64 z)) := by
  have hf : Fr (fun k => k = hb) w (w.setCell ⟨hb, i, none⟩ (.int .i64 z)) := (Fr.refl (fun k => k = hb) w).setCell (p := ⟨hb, i, none⟩) (.inl rfl) _
  refine ⟨⟨s.f.then hf (fun k hk e => by have := s.hl.1; omega), s.a.fr hf (fun k hk e => (s.da k hk).1 e), s.b.fr hf (fun k hk e => (s.db k hk).1 e), ?_, (hf.cell (p := ⟨cb, 2, none⟩) s.cl (fun e => s.n.2 e)).trans s.c, s.n, s.da, s.db⟩, hf⟩
  have h1 := (s.hr.stored i (.int .i64 z)).1
  rw [flatZ] at h1 ⊢
  rw [List.length_set, List.map_set]
  exact h1
/-- A place and a height more. -/
theorem HSt.push (s : HSt w0 hb cb ca h A B qa qh w) (x y : Int) (lA : A.length ≤ 1000000) (lB : B.length ≤ 1000000) :
    ∃ (qa' qh' : Slc) (w1 w2 : World), (Builtin.append_ #[49, 49] 49 #[.slice qa.a qa.n qa.c, .slice (some ⟨w.heap.size, 0, none⟩) 1 1]).run Tryd.prog (w.alloc (litZ x)) = .ok (.slice qa'.a qa'.n qa'.c) w1 ∧
      (Builtin.append_ #[49, 49] 49 #[.slice qh.a qh.n qh.c, .slice (some ⟨w1.heap.size, 0, none⟩) 1 1]).run Tryd.prog (w1.alloc (litZ y)) = .ok (.slice qh'.a qh'.n qh'.c) w2 ∧ HSt w0 hb cb ca h (A ++ [x]) (B ++ [y]) qa' qh' w2 ∧ Fr (fun k => qa.v.ownBlock = some k ∨ qh.v.ownBlock = some k) w w2 := by
  obtain ⟨qa', w1, r1, a1, f1, t1⟩ := s.a.app x s.f.size lA
  have b1 : OwnZ w0.heap.size qh B w1 := s.b.fr f1 (fun k hk e => (s.da k e).2.2 hk)
  obtain ⟨qh', w2, r2, b2, f2, t2⟩ := b1.app y (Nat.le_trans s.f.size f1.size) lB
  have hF : Fr (fun k => qa.v.ownBlock = some k ∨ qh.v.ownBlock = some k) w w2 := (f1.mono (fun _ _ e => .inl e)).trans (f2.mono (fun _ _ e => .inr e))
  have hcl := s.cl
  have hhl := s.hl
  have hsz := f1.size
  have na : ∀ k, qa'.v.ownBlock = some k → k ≠ hb ∧ k ≠ cb ∧ ¬ qh.v.ownBlock = some k := fun k hk => by
    rcases t1 k hk with e | e
    · exact s.da k e
    · exact ⟨by omega, by omega, fun e2 => by have := (s.b.lt e2).2; omega⟩
  refine ⟨qa', qh', w1, w2, r1, r2, ⟨s.f.then hF ?_, a1.fr f2 (fun k hk e => (na k hk).2.2 e), b2, owns_fr s.hr hF ?_, (hF.cell (p := ⟨cb, 2, none⟩) hcl ?_).trans s.c, s.n, fun k hk => ⟨(na k hk).1, (na k hk).2.1, fun e => ?_⟩, fun k hk => ?_⟩, hF⟩
  · rintro k hk (e | e)
    · have := (s.a.lt e).1; omega
    · have := (s.b.lt e).1; omega
  · rintro k hk (e | e)
    · obtain rfl : hb = k := Option.some.inj hk
      exact (s.da _ e).1 rfl
    · obtain rfl : hb = k := Option.some.inj hk
      exact (s.db _ e).1 rfl
  · rintro (e | e)
    · exact (s.da _ e).2.1 rfl
    · exact (s.db _ e).2 rfl
  · rcases t2 k e with e | e
    · exact (na k hk).2.2 e
    · have := (a1.lt hk).2; omega
  · rcases t2 k hk with e | e
    · exact s.db k e
    · exact ⟨by omega, by omega⟩
end
end Go.Proofs.YtpemfikdmkmgbaaDoor
end
section
/- Chapter 6 as functions: programs and agents, and what is wrong with them. -/
set_option maxHeartbeats 0
set_option maxRecDepth 100000
namespace Go.Proofs.YtpemfikdmkmgbaaDoor
open Go Go.RowKit
structure Cz where
  np : Int
  nv : Int
  ins : List In
structure Pz where
  cs : List Cz
  ws : List Bs
structure Val where
  k : Int
  n : Int
  t : Bs
structure Cel where
  l : Val
  r : Val
structure Fm where
  fn : Int
  at_ : Int
  vars : List Val
  stack : List Val
structure Ag where
  id : Int
  trip : Int
  pg : Pz
  fr : List Fm
  hp : List Cel
  fuel : Int
  cells : Int
  hops : Int
/-- The first one that is not nothing. -/
def firstE {α : Type} (f : α → Int) : List α → Int
  | [] => 0
  | x :: l => if f x ≠ 0 then f x else firstE f l
def firstN (f : Nat → Int) : Nat → Nat → Int
  | 0, _ => 0
  | n + 1, k => if f k ≠ 0 then f k else firstN f n (k + 1)
theorem firstE_drop {α : Type} (f : α → Int) (l : List α) {k : Nat} {x : α} (h : l[k]? = some x) : firstE f (l.drop k) = if f x ≠ 0 then f x else firstE f (l.drop (k + 1)) := by
  obtain ⟨hk, rfl⟩ := List.getElem?_eq_some_iff.1 h
  rw [List.drop_eq_getElem_cons hk, firstE]
theorem firstE_end {α : Type} (f : α → Int) (l : List α) {k : Nat} (h : l.length ≤ k) : firstE f (l.drop k) = 0 := by
  rw [List.drop_eq_nil_of_le h, firstE]
theorem firstE_zero {α : Type} {f : α → Int} : ∀ {l : List α}, firstE f l = 0 → ∀ x ∈ l, f x = 0
  | [], _, x, hx => by cases hx
  | y :: l, h, x, hx => by
    rw [firstE] at h
    split at h
    · contradiction
    · rename_i hy
      rcases List.mem_cons.1 hx with rfl | hx
      · exact Classical.not_not.1 hy
      · exact firstE_zero h x hx
theorem firstE_all {α : Type} {f : α → Int} : ∀ {l : List α}, (∀ x ∈ l, f x = 0) → firstE f l = 0
  | [], _ => rfl
  | y :: l, h => by
    rw [firstE, if_neg (by rw [h y (by simp)]; simp)]
    exact firstE_all (fun x hx => h x (by simp [hx]))
theorem firstE_append {α : Type} (f : α → Int) : ∀ (l m : List α), firstE f (l ++ m) = if firstE f l ≠ 0 then firstE f l else firstE f m
  | [], m => by simp [firstE]
  | y :: l, m => by
    rw [List.cons_append, firstE, firstE, firstE_append f l m]
    by_cases h : f y = 0
    · simp [h]
    · simp [h]
theorem firstN_all {f : Nat → Int} : ∀ {n k : Nat}, (∀ j, k ≤ j → j < k + n → f j = 0) → firstN f n k = 0
  | 0, _, _ => rfl
  | n + 1, k, h => by
    rw [firstN, if_neg (by rw [h k (Nat.le_refl _) (by omega)]; simp)]
    exact firstN_all (fun j h1 h2 => h j (by omega) (by omega))
theorem firstN_zero {f : Nat → Int} : ∀ {n k : Nat}, firstN f n k = 0 → ∀ j, k ≤ j → j < k + n → f j = 0
  | 0, k, _, j, h1, h2 => by omega
  | n + 1, k, h, j, h1, h2 => by
    rw [firstN] at h
    split at h
    · contradiction
    · rename_i hy
      by_cases e : j = k
      · rw [e]; exact Classical.not_not.1 hy
      · exact firstN_zero h j (by omega) (by omega)
def npZ (p : Pz) (a : Int) : Int := ((p.cs[a.toNat]?).map Cz.np).getD 0
def loC (op : Int) : Int := if op = 1 then -1073741824 else if op = 5 then 1 else 0
def hiC (p : Pz) (c : Cz) (op : Int) : Int :=
  if op = 1 then 1073741824 else if op = 2 then p.ws.length - 1 else if op = 3 ∨ op = 4 then c.nv - 1 else if op = 5 then 5
  else if op = 15 ∨ op = 16 then c.ins.length - 1 else if op = 17 then p.cs.length - 1 else 0
def bC (p : Pz) (i : In) : Int := if i.op = 17 then npZ p i.a else 0
/-- What is wrong with an instruction. -/
def inC (p : Pz) (c : Cz) (i : In) : Int :=
  if i.op < 1 ∨ 19 < i.op then 1
  else if i.a < loC i.op ∨ hiC p c i.op < i.a then 3
  else if i.b ≠ bC p i then 3
  else 0
def codeC (p : Pz) (c : Cz) : Int := if firstE (inC p c) c.ins ≠ 0 then firstE (inC p c) c.ins else (heightsC c.ins).2
def headBad (c : Cz) : Bool := decide (c.np < 0 ∨ 4 < c.np ∨ c.nv < c.np ∨ 8 < c.nv ∨ c.ins.length = 0 ∨ 200 < c.ins.length)
def hdE (c : Cz) : Int := if headBad c then 3 else 0
def wdE (x : Bs) : Int := if isWord x then 0 else 7
/-- What is wrong with a program but for its instructions. -/
def hedC (p : Pz) : Int :=
  if p.cs.length = 0 ∨ 5 < p.cs.length then 5
  else if 16 < p.ws.length then 4
  else if firstE wdE p.ws ≠ 0 then firstE wdE p.ws
  else if npZ p 0 ≠ 0 then 10
  else firstE hdE p.cs
def programC (p : Pz) : Int := if hedC p ≠ 0 then hedC p else firstE (codeC p) p.cs
/-- What is wrong with a value. -/
def wrongV (c : Int) (v : Val) : Int :=
  if v.k = 0 then (if v.n < -1073741824 ∨ 1073741824 < v.n then 3 else if v.t.isEmpty then 0 else 2)
  else if v.k = 1 then (if 60 < v.t.length then 4 else if v.n ≠ 0 then 2 else 0)
  else if v.k = 2 then (if v.n < 0 ∨ c ≤ v.n then 6 else if v.t.isEmpty then 0 else 2)
  else 1
def cellC (c : Int) (x : Cel) : Int := if wrongV c x.l ≠ 0 then wrongV c x.l else wrongV c x.r
def countsC (a : Ag) : Int :=
  if a.id < 0 ∨ 1073741824 < a.id ∨ a.trip < 0 ∨ 1073741824 < a.trip then 3
  else if a.fuel < 0 ∨ 2000 < a.fuel ∨ a.cells < 0 ∨ 60 < a.cells ∨ a.hops < 0 ∨ 12 < a.hops then 3
  else if a.fr.length = 0 ∨ 12 < a.fr.length then 5
  else if 60 < a.hp.length + a.cells then 4
  else 0
abbrev cz0 : Cz := ⟨0, 0, []⟩
abbrev fm0 : Fm := ⟨0, 0, [], []⟩
abbrev in0 : In := ⟨0, 0, 0⟩
/-- What a frame waits for. -/
def waitC (a : Ag) (k : Nat) (away : Bool) : Int × Int :=
  if k + 1 < a.fr.length then (17, (a.fr.getD (k + 1) fm0).fn) else if away then (13, 0) else (0, 0)
def heightZ (c : Cz) (n : Nat) : Int := (heightsC c.ins).1.getD n (-1)
def frameC (p : Pz) (f : Fm) (q : Int × Int) : Int :=
  if f.fn < 0 ∨ p.cs.length ≤ f.fn then 3
  else if f.at_ < 0 ∨ (p.cs.getD f.fn.toNat cz0).ins.length ≤ f.at_ ∨ (f.vars.length : Int) ≠ (p.cs.getD f.fn.toNat cz0).nv then 3
  else if q.1 ≠ 0 ∧ (f.at_ = 0 ∨ heightZ (p.cs.getD f.fn.toNat cz0) (f.at_.toNat - 1) = -1 ∨ ((p.cs.getD f.fn.toNat cz0).ins.getD (f.at_.toNat - 1) in0).op ≠ q.1 ∨ ((p.cs.getD f.fn.toNat cz0).ins.getD (f.at_.toNat - 1) in0).a ≠ q.2) then 10
  else if (f.stack.length : Int) ≠ heightZ (p.cs.getD f.fn.toNat cz0) f.at_.toNat - (if q.1 ≠ 0 then 1 else 0) then 10
  else 0
def frameE (a : Ag) (away : Bool) (k : Nat) : Int :=
  if frameC a.pg (a.fr.getD k fm0) (waitC a k away) ≠ 0 then frameC a.pg (a.fr.getD k fm0) (waitC a k away)
  else if firstE (wrongV a.hp.length) (a.fr.getD k fm0).vars ≠ 0 then firstE (wrongV a.hp.length) (a.fr.getD k fm0).vars
  else firstE (wrongV a.hp.length) (a.fr.getD k fm0).stack
/-- What is wrong with an agent. -/
def agentC (a : Ag) (away : Bool) : Int :=
  if programC a.pg ≠ 0 then programC a.pg
  else if countsC a ≠ 0 then countsC a
  else if firstN (frameE a away) a.fr.length 0 ≠ 0 then firstN (frameE a away) a.fr.length 0
  else firstE (cellC a.hp.length) a.hp
/-- As the machine holds them. -/
abbrev i64 (n : Int) : Prop := -9223372036854775808 ≤ n ∧ n ≤ 9223372036854775807
structure CzOk (w : World) (r : RawC) (x : Cz) : Prop where
  np : r.np = x.np
  nv : r.nv = x.nv
  s : Sl encI 3 w r.s.v x.ins
structure PzOk (w : World) (sc sw : Slc) (p : Pz) : Prop where
  cs : ∃ rs, Sl encC 3 w sc.v rs ∧ Each (CzOk w) rs p.cs
  ws : Sl encN 1 w sw.v p.ws
theorem CzOk.fr {w w' : World} {r : RawC} {x : Cz} (h : CzOk w r x) (hf : Fr nothing w w') : CzOk w' r x := ⟨h.np, h.nv, h.s.fr hf (fun _ _ => id)⟩
theorem PzOk.fr {w w' : World} {sc sw : Slc} {p : Pz} (h : PzOk w sc sw p) (hf : Fr nothing w w') : PzOk w' sc sw p := by
  obtain ⟨⟨rs, h1, h2⟩, h3⟩ := h
  exact ⟨⟨rs, h1.fr hf (fun _ _ => id), h2.1, fun i r x e1 e2 => (h2.2 i r x e1 e2).fr hf⟩, h3.fr hf (fun _ _ => id)⟩
def encV (v : Val) : List Value := [.int .i64 v.k, .int .i64 v.n, .string (bs v.t)]
theorem encV_len (v : Val) : (encV v).length = 3 := rfl
abbrev vv (v : Val) : Value := .agg #[.int .i64 v.k, .int .i64 v.n, .string (bs v.t)]
def encL (c : Cel) : List Value := encV c.l ++ encV c.r
theorem encL_len (c : Cel) : (encL c).length = 6 := rfl
structure RawM where
  fn : Int
  at_ : Int
  v : Slc
  s : Slc
def encM (r : RawM) : List Value := [.int .i64 r.fn, .int .i64 r.at_, .slice r.v.a r.v.n r.v.c, .slice r.s.a r.s.n r.s.c]
theorem encM_len (r : RawM) : (encM r).length = 4 := rfl
structure FmOk (w : World) (r : RawM) (x : Fm) : Prop where
  fn : r.fn = x.fn
  at_ : r.at_ = x.at_
  v : Sl encV 3 w r.v.v x.vars
  s : Sl encV 3 w r.s.v x.stack
theorem FmOk.fr {w w' : World} {r : RawM} {x : Fm} (h : FmOk w r x) (hf : Fr nothing w w') : FmOk w' r x := ⟨h.fn, h.at_, h.v.fr hf (fun _ _ => id), h.s.fr hf (fun _ _ => id)⟩
structure AgOk (w : World) (sc sw sf sh : Slc) (a : Ag) : Prop where
  pg : PzOk w sc sw a.pg
  fr : ∃ rs, Sl encM 4 w sf.v rs ∧ Each (FmOk w) rs a.fr
  hp : Sl encL 6 w sh.v a.hp
theorem AgOk.fr' {w w' : World} {sc sw sf sh : Slc} {a : Ag} (h : AgOk w sc sw sf sh a) (hf : Fr nothing w w') : AgOk w' sc sw sf sh a := by
  obtain ⟨h0, ⟨rs, h1, h2⟩, h3⟩ := h
  exact ⟨h0.fr hf, ⟨rs, h1.fr hf (fun _ _ => id), h2.1, fun i r x e1 e2 => (h2.2 i r x e1 e2).fr hf⟩, h3.fr hf (fun _ _ => id)⟩
/-- Numbers and texts are such as the machine has. -/
structure WfI (i : In) : Prop where
  op : i64 i.op
  a : i64 i.a
  b : i64 i.b
structure WfZ (p : Pz) : Prop where
  c : ∀ c ∈ p.cs, i64 c.np ∧ i64 c.nv ∧ ∀ i ∈ c.ins, WfI i
  w : ∀ t ∈ p.ws, t.length ≤ 9223372036854775807
structure WfV (v : Val) : Prop where
  k : i64 v.k
  n : i64 v.n
  t : v.t.length ≤ 9223372036854775807
structure WfM (f : Fm) : Prop where
  fn : i64 f.fn
  at_ : i64 f.at_
  v : ∀ v ∈ f.vars, WfV v
  s : ∀ v ∈ f.stack, WfV v
structure WfA (a : Ag) : Prop where
  pg : WfZ a.pg
  fr : ∀ f ∈ a.fr, WfM f
  hp : ∀ c ∈ a.hp, WfV c.l ∧ WfV c.r
  n : i64 a.id ∧ i64 a.trip ∧ i64 a.fuel ∧ i64 a.cells ∧ i64 a.hops
  l : a.hp.length ≤ 140737488355328 ∧ a.fr.length ≤ 140737488355328
theorem sl_elemV {w : World} {s : Slc} {rs : List Val} (h : Sl encV 3 w s.v rs) {i : Nat} {r : Val} (hi : rs[i]? = some r) : ∃ b off, s.a = some ⟨b, off, none⟩ ∧ b < w.heap.size ∧ w.cell? ⟨b, off + i * 3, none⟩ = some (.int .i64 r.k) ∧ w.cell? ⟨b, off + i * 3 + 1, none⟩ = some (.int .i64 r.n) ∧ w.cell? ⟨b, off + i * 3 + 2, none⟩ = some (.string (bs r.t)) := by
  obtain ⟨ao, cap, he, _, hc⟩ := h
  obtain ⟨b, off, rfl, hb, hcell⟩ := hc i r hi
  simp only [Value.slice.injEq] at he
  exact ⟨b, off, he.1, hb, hcell 0 _ rfl, hcell 1 _ rfl, hcell 2 _ rfl⟩
theorem sl_elemM {w : World} {s : Slc} {rs : List RawM} (h : Sl encM 4 w s.v rs) {i : Nat} {r : RawM} (hi : rs[i]? = some r) : ∃ b off, s.a = some ⟨b, off, none⟩ ∧ b < w.heap.size ∧ w.cell? ⟨b, off + i * 4, none⟩ = some (.int .i64 r.fn) ∧ w.cell? ⟨b, off + i * 4 + 1, none⟩ = some (.int .i64 r.at_) ∧ w.cell? ⟨b, off + i * 4 + 2, none⟩ = some (.slice r.v.a r.v.n r.v.c) ∧ w.cell? ⟨b, off + i * 4 + 3, none⟩ = some (.slice r.s.a r.s.n r.s.c) := by
  obtain ⟨ao, cap, he, _, hc⟩ := h
  obtain ⟨b, off, rfl, hb, hcell⟩ := hc i r hi
  simp only [Value.slice.injEq] at he
  exact ⟨b, off, he.1, hb, hcell 0 _ rfl, hcell 1 _ rfl, hcell 2 _ rfl, hcell 3 _ rfl⟩
theorem sl_elemL {w : World} {s : Slc} {rs : List Cel} (h : Sl encL 6 w s.v rs) {i : Nat} {r : Cel} (hi : rs[i]? = some r) : ∃ b off, s.a = some ⟨b, off, none⟩ ∧ b < w.heap.size ∧ w.cell? ⟨b, off + i * 6, none⟩ = some (.int .i64 r.l.k) ∧ w.cell? ⟨b, off + i * 6 + 1, none⟩ = some (.int .i64 r.l.n) ∧ w.cell? ⟨b, off + i * 6 + 2, none⟩ = some (.string (bs r.l.t)) ∧ w.cell? ⟨b, off + i * 6 + 3, none⟩ = some (.int .i64 r.r.k) ∧ w.cell? ⟨b, off + i * 6 + 4, none⟩ = some (.int .i64 r.r.n) ∧ w.cell? ⟨b, off + i * 6 + 5, none⟩ = some (.string (bs r.r.t)) := by
  obtain ⟨ao, cap, he, _, hc⟩ := h
  obtain ⟨b, off, rfl, hb, hcell⟩ := hc i r hi
  simp only [Value.slice.injEq] at he
  exact ⟨b, off, he.1, hb, hcell 0 _ rfl, hcell 1 _ rfl, hcell 2 _ rfl, hcell 3 _ rfl, hcell 4 _ rfl, hcell 5 _ rfl⟩
end Go.Proofs.YtpemfikdmkmgbaaDoor
end
