/- Chapter 6 as functions: programs and agents, and what is wrong with them. -/
import Derived.Test.YtgocmpooppejdaaVH0
set_option maxHeartbeats 0
set_option maxRecDepth 100000
namespace Go.Proofs.Ytgocmpooppejdaa
open Go Go.RowKit
structure Cz where
  np : Int
  nv : Int
  ins : List In
structure Pz where
  cs : List Cz
  ws : List Bs
structure Val where
  k : Int
  n : Int
  t : Bs
structure Cel where
  l : Val
  r : Val
structure Fm where
  fn : Int
  at_ : Int
  vars : List Val
  stack : List Val
structure Ag where
  id : Int
  trip : Int
  pg : Pz
  fr : List Fm
  hp : List Cel
  fuel : Int
  cells : Int
  hops : Int
/-- The first one that is not nothing. -/
def firstE {α : Type} (f : α → Int) : List α → Int
  | [] => 0
  | x :: l => if f x ≠ 0 then f x else firstE f l
def firstN (f : Nat → Int) : Nat → Nat → Int
  | 0, _ => 0
  | n + 1, k => if f k ≠ 0 then f k else firstN f n (k + 1)
theorem firstE_drop {α : Type} (f : α → Int) (l : List α) {k : Nat} {x : α} (h : l[k]? = some x) : firstE f (l.drop k) = if f x ≠ 0 then f x else firstE f (l.drop (k + 1)) := by
  obtain ⟨hk, rfl⟩ := List.getElem?_eq_some_iff.1 h
  rw [List.drop_eq_getElem_cons hk, firstE]
theorem firstE_end {α : Type} (f : α → Int) (l : List α) {k : Nat} (h : l.length ≤ k) : firstE f (l.drop k) = 0 := by
  rw [List.drop_eq_nil_of_le h, firstE]
theorem firstE_zero {α : Type} {f : α → Int} : ∀ {l : List α}, firstE f l = 0 → ∀ x ∈ l, f x = 0
  | [], _, x, hx => by cases hx
  | y :: l, h, x, hx => by
    rw [firstE] at h
    split at h
    · contradiction
    · rename_i hy
      rcases List.mem_cons.1 hx with rfl | hx
      · exact Classical.not_not.1 hy
      · exact firstE_zero h x hx
theorem firstE_all {α : Type} {f : α → Int} : ∀ {l : List α}, (∀ x ∈ l, f x = 0) → firstE f l = 0
  | [], _ => rfl
  | y :: l, h => by
    rw [firstE, if_neg (by rw [h y (by simp)]; simp)]
    exact firstE_all (fun x hx => h x (by simp [hx]))
theorem firstE_append {α : Type} (f : α → Int) : ∀ (l m : List α), firstE f (l ++ m) = if firstE f l ≠ 0 then firstE f l else firstE f m
  | [], m => by simp [firstE]
  | y :: l, m => by
    rw [List.cons_append, firstE, firstE, firstE_append f l m]
    by_cases h : f y = 0
    · simp [h]
    · simp [h]
theorem firstN_all {f : Nat → Int} : ∀ {n k : Nat}, (∀ j, k ≤ j → j < k + n → f j = 0) → firstN f n k = 0
  | 0, _, _ => rfl
  | n + 1, k, h => by
    rw [firstN, if_neg (by rw [h k (Nat.le_refl _) (by omega)]; simp)]
    exact firstN_all (fun j h1 h2 => h j (by omega) (by omega))
theorem firstN_zero {f : Nat → Int} : ∀ {n k : Nat}, firstN f n k = 0 → ∀ j, k ≤ j → j < k + n → f j = 0
  | 0, k, _, j, h1, h2 => by omega
  | n + 1, k, h, j, h1, h2 => by
    rw [firstN] at h
    split at h
    · contradiction
    · rename_i hy
      by_cases e : j = k
      · rw [e]; exact Classical.not_not.1 hy
      · exact firstN_zero h j (by omega) (by omega)
def npZ (p : Pz) (a : Int) : Int := ((p.cs[a.toNat]?).map Cz.np).getD 0
def loC (op : Int) : Int := if op = 1 then -1073741824 else if op = 5 then 1 else 0
def hiC (p : Pz) (c : Cz) (op : Int) : Int :=
  if op = 1 then 1073741824 else if op = 2 then p.ws.length - 1 else if op = 3 ∨ op = 4 then c.nv - 1 else if op = 5 then 5
  else if op = 15 ∨ op = 16 then c.ins.length - 1 else if op = 17 then p.cs.length - 1 else 0
def bC (p : Pz) (i : In) : Int := if i.op = 17 then npZ p i.a else 0
/-- What is wrong with an instruction. -/
def inC (p : Pz) (c : Cz) (i : In) : Int :=
  if i.op < 1 ∨ 19 < i.op then 1
  else if i.a < loC i.op ∨ hiC p c i.op < i.a then 3
  else if i.b ≠ bC p i then 3
  else 0
def codeC (p : Pz) (c : Cz) : Int := if firstE (inC p c) c.ins ≠ 0 then firstE (inC p c) c.ins else (heightsC c.ins).2
def headBad (c : Cz) : Bool := decide (c.np < 0 ∨ 4 < c.np ∨ c.nv < c.np ∨ 8 < c.nv ∨ c.ins.length = 0 ∨ 200 < c.ins.length)
def hdE (c : Cz) : Int := if headBad c then 3 else 0
def wdE (x : Bs) : Int := if isWord x then 0 else 7
/-- What is wrong with a program but for its instructions. -/
def hedC (p : Pz) : Int :=
  if p.cs.length = 0 ∨ 5 < p.cs.length then 5
  else if 16 < p.ws.length then 4
  else if firstE wdE p.ws ≠ 0 then firstE wdE p.ws
  else if npZ p 0 ≠ 0 then 10
  else firstE hdE p.cs
def programC (p : Pz) : Int := if hedC p ≠ 0 then hedC p else firstE (codeC p) p.cs
/-- What is wrong with a value. -/
def wrongV (c : Int) (v : Val) : Int :=
  if v.k = 0 then (if v.n < -1073741824 ∨ 1073741824 < v.n then 3 else if v.t.isEmpty then 0 else 2)
  else if v.k = 1 then (if 60 < v.t.length then 4 else if v.n ≠ 0 then 2 else 0)
  else if v.k = 2 then (if v.n < 0 ∨ c ≤ v.n then 6 else if v.t.isEmpty then 0 else 2)
  else 1
def cellC (c : Int) (x : Cel) : Int := if wrongV c x.l ≠ 0 then wrongV c x.l else wrongV c x.r
def countsC (a : Ag) : Int :=
  if a.id < 0 ∨ 1073741824 < a.id ∨ a.trip < 0 ∨ 1073741824 < a.trip then 3
  else if a.fuel < 0 ∨ 2000 < a.fuel ∨ a.cells < 0 ∨ 60 < a.cells ∨ a.hops < 0 ∨ 12 < a.hops then 3
  else if a.fr.length = 0 ∨ 12 < a.fr.length then 5
  else if 60 < a.hp.length + a.cells then 4
  else 0
abbrev cz0 : Cz := ⟨0, 0, []⟩
abbrev fm0 : Fm := ⟨0, 0, [], []⟩
abbrev in0 : In := ⟨0, 0, 0⟩
/-- What a frame waits for. -/
def waitC (a : Ag) (k : Nat) (away : Bool) : Int × Int :=
  if k + 1 < a.fr.length then (17, (a.fr.getD (k + 1) fm0).fn) else if away then (13, 0) else (0, 0)
def heightZ (c : Cz) (n : Nat) : Int := (heightsC c.ins).1.getD n (-1)
def frameC (p : Pz) (f : Fm) (q : Int × Int) : Int :=
  if f.fn < 0 ∨ p.cs.length ≤ f.fn then 3
  else if f.at_ < 0 ∨ (p.cs.getD f.fn.toNat cz0).ins.length ≤ f.at_ ∨ (f.vars.length : Int) ≠ (p.cs.getD f.fn.toNat cz0).nv then 3
  else if q.1 ≠ 0 ∧ (f.at_ = 0 ∨ heightZ (p.cs.getD f.fn.toNat cz0) (f.at_.toNat - 1) = -1 ∨ ((p.cs.getD f.fn.toNat cz0).ins.getD (f.at_.toNat - 1) in0).op ≠ q.1 ∨ ((p.cs.getD f.fn.toNat cz0).ins.getD (f.at_.toNat - 1) in0).a ≠ q.2) then 10
  else if (f.stack.length : Int) ≠ heightZ (p.cs.getD f.fn.toNat cz0) f.at_.toNat - (if q.1 ≠ 0 then 1 else 0) then 10
  else 0
def frameE (a : Ag) (away : Bool) (k : Nat) : Int :=
  if frameC a.pg (a.fr.getD k fm0) (waitC a k away) ≠ 0 then frameC a.pg (a.fr.getD k fm0) (waitC a k away)
  else if firstE (wrongV a.hp.length) (a.fr.getD k fm0).vars ≠ 0 then firstE (wrongV a.hp.length) (a.fr.getD k fm0).vars
  else firstE (wrongV a.hp.length) (a.fr.getD k fm0).stack
/-- What is wrong with an agent. -/
def agentC (a : Ag) (away : Bool) : Int :=
  if programC a.pg ≠ 0 then programC a.pg
  else if countsC a ≠ 0 then countsC a
  else if firstN (frameE a away) a.fr.length 0 ≠ 0 then firstN (frameE a away) a.fr.length 0
  else firstE (cellC a.hp.length) a.hp
/-- As the machine holds them. -/
abbrev i64 (n : Int) : Prop := -9223372036854775808 ≤ n ∧ n ≤ 9223372036854775807
structure CzOk (w : World) (r : RawC) (x : Cz) : Prop where
  np : r.np = x.np
  nv : r.nv = x.nv
  s : Sl encI 3 w r.s.v x.ins
structure PzOk (w : World) (sc sw : Slc) (p : Pz) : Prop where
  cs : ∃ rs, Sl encC 3 w sc.v rs ∧ Each (CzOk w) rs p.cs
  ws : Sl encN 1 w sw.v p.ws
theorem CzOk.fr {w w' : World} {r : RawC} {x : Cz} (h : CzOk w r x) (hf : Fr nothing w w') : CzOk w' r x := ⟨h.np, h.nv, h.s.fr hf (fun _ _ => id)⟩
theorem PzOk.fr {w w' : World} {sc sw : Slc} {p : Pz} (h : PzOk w sc sw p) (hf : Fr nothing w w') : PzOk w' sc sw p := by
  obtain ⟨⟨rs, h1, h2⟩, h3⟩ := h
  exact ⟨⟨rs, h1.fr hf (fun _ _ => id), h2.1, fun i r x e1 e2 => (h2.2 i r x e1 e2).fr hf⟩, h3.fr hf (fun _ _ => id)⟩
def encV (v : Val) : List Value := [.int .i64 v.k, .int .i64 v.n, .string (bs v.t)]
theorem encV_len (v : Val) : (encV v).length = 3 := rfl
abbrev vv (v : Val) : Value := .agg #[.int .i64 v.k, .int .i64 v.n, .string (bs v.t)]
def encL (c : Cel) : List Value := encV c.l ++ encV c.r
theorem encL_len (c : Cel) : (encL c).length = 6 := rfl
structure RawM where
  fn : Int
  at_ : Int
  v : Slc
  s : Slc
def encM (r : RawM) : List Value := [.int .i64 r.fn, .int .i64 r.at_, .slice r.v.a r.v.n r.v.c, .slice r.s.a r.s.n r.s.c]
theorem encM_len (r : RawM) : (encM r).length = 4 := rfl
structure FmOk (w : World) (r : RawM) (x : Fm) : Prop where
  fn : r.fn = x.fn
  at_ : r.at_ = x.at_
  v : Sl encV 3 w r.v.v x.vars
  s : Sl encV 3 w r.s.v x.stack
theorem FmOk.fr {w w' : World} {r : RawM} {x : Fm} (h : FmOk w r x) (hf : Fr nothing w w') : FmOk w' r x := ⟨h.fn, h.at_, h.v.fr hf (fun _ _ => id), h.s.fr hf (fun _ _ => id)⟩
structure AgOk (w : World) (sc sw sf sh : Slc) (a : Ag) : Prop where
  pg : PzOk w sc sw a.pg
  fr : ∃ rs, Sl encM 4 w sf.v rs ∧ Each (FmOk w) rs a.fr
  hp : Sl encL 6 w sh.v a.hp
theorem AgOk.fr' {w w' : World} {sc sw sf sh : Slc} {a : Ag} (h : AgOk w sc sw sf sh a) (hf : Fr nothing w w') : AgOk w' sc sw sf sh a := by
  obtain ⟨h0, ⟨rs, h1, h2⟩, h3⟩ := h
  exact ⟨h0.fr hf, ⟨rs, h1.fr hf (fun _ _ => id), h2.1, fun i r x e1 e2 => (h2.2 i r x e1 e2).fr hf⟩, h3.fr hf (fun _ _ => id)⟩
/-- Numbers and texts are such as the machine has. -/
structure WfI (i : In) : Prop where
  op : i64 i.op
  a : i64 i.a
  b : i64 i.b
structure WfZ (p : Pz) : Prop where
  c : ∀ c ∈ p.cs, i64 c.np ∧ i64 c.nv ∧ ∀ i ∈ c.ins, WfI i
  w : ∀ t ∈ p.ws, t.length ≤ 9223372036854775807
structure WfV (v : Val) : Prop where
  k : i64 v.k
  n : i64 v.n
  t : v.t.length ≤ 9223372036854775807
structure WfM (f : Fm) : Prop where
  fn : i64 f.fn
  at_ : i64 f.at_
  v : ∀ v ∈ f.vars, WfV v
  s : ∀ v ∈ f.stack, WfV v
structure WfA (a : Ag) : Prop where
  pg : WfZ a.pg
  fr : ∀ f ∈ a.fr, WfM f
  hp : ∀ c ∈ a.hp, WfV c.l ∧ WfV c.r
  n : i64 a.id ∧ i64 a.trip ∧ i64 a.fuel ∧ i64 a.cells ∧ i64 a.hops
  l : a.hp.length ≤ 140737488355328 ∧ a.fr.length ≤ 140737488355328
theorem sl_elemV {w : World} {s : Slc} {rs : List Val} (h : Sl encV 3 w s.v rs) {i : Nat} {r : Val} (hi : rs[i]? = some r) : ∃ b off, s.a = some ⟨b, off, none⟩ ∧ b < w.heap.size ∧ w.cell? ⟨b, off + i * 3, none⟩ = some (.int .i64 r.k) ∧ w.cell? ⟨b, off + i * 3 + 1, none⟩ = some (.int .i64 r.n) ∧ w.cell? ⟨b, off + i * 3 + 2, none⟩ = some (.string (bs r.t)) := by
  obtain ⟨ao, cap, he, _, hc⟩ := h
  obtain ⟨b, off, rfl, hb, hcell⟩ := hc i r hi
  simp only [Value.slice.injEq] at he
  exact ⟨b, off, he.1, hb, hcell 0 _ rfl, hcell 1 _ rfl, hcell 2 _ rfl⟩
theorem sl_elemM {w : World} {s : Slc} {rs : List RawM} (h : Sl encM 4 w s.v rs) {i : Nat} {r : RawM} (hi : rs[i]? = some r) : ∃ b off, s.a = some ⟨b, off, none⟩ ∧ b < w.heap.size ∧ w.cell? ⟨b, off + i * 4, none⟩ = some (.int .i64 r.fn) ∧ w.cell? ⟨b, off + i * 4 + 1, none⟩ = some (.int .i64 r.at_) ∧ w.cell? ⟨b, off + i * 4 + 2, none⟩ = some (.slice r.v.a r.v.n r.v.c) ∧ w.cell? ⟨b, off + i * 4 + 3, none⟩ = some (.slice r.s.a r.s.n r.s.c) := by
  obtain ⟨ao, cap, he, _, hc⟩ := h
  obtain ⟨b, off, rfl, hb, hcell⟩ := hc i r hi
  simp only [Value.slice.injEq] at he
  exact ⟨b, off, he.1, hb, hcell 0 _ rfl, hcell 1 _ rfl, hcell 2 _ rfl, hcell 3 _ rfl⟩
theorem sl_elemL {w : World} {s : Slc} {rs : List Cel} (h : Sl encL 6 w s.v rs) {i : Nat} {r : Cel} (hi : rs[i]? = some r) : ∃ b off, s.a = some ⟨b, off, none⟩ ∧ b < w.heap.size ∧ w.cell? ⟨b, off + i * 6, none⟩ = some (.int .i64 r.l.k) ∧ w.cell? ⟨b, off + i * 6 + 1, none⟩ = some (.int .i64 r.l.n) ∧ w.cell? ⟨b, off + i * 6 + 2, none⟩ = some (.string (bs r.l.t)) ∧ w.cell? ⟨b, off + i * 6 + 3, none⟩ = some (.int .i64 r.r.k) ∧ w.cell? ⟨b, off + i * 6 + 4, none⟩ = some (.int .i64 r.r.n) ∧ w.cell? ⟨b, off + i * 6 + 5, none⟩ = some (.string (bs r.r.t)) := by
  obtain ⟨ao, cap, he, _, hc⟩ := h
  obtain ⟨b, off, rfl, hb, hcell⟩ := hc i r hi
  simp only [Value.slice.injEq] at he
  exact ⟨b, off, he.1, hb, hcell 0 _ rfl, hcell 1 _ rfl, hcell 2 _ rfl, hcell 3 _ rfl, hcell 4 _ rfl, hcell 5 _ rfl⟩
end Go.Proofs.Ytgocmpooppejdaa
