/- RSts2; RSts3; RSts4; RSts5. -/
import Derived.Test.YtpemfikdmkmgbaaDoorPartB17
section
/- The document's own answer: code of statements: what lies there on the way. -/
set_option maxHeartbeats 0
set_option maxRecDepth 100000
namespace Go.Proofs.YtpemfikdmkmgbaaDoor
open Go Go.RowKit
structure AtN (ab : Nat) (E : Bs → Int) (nm : List Bs) (n : Nat) (T : Nat → Prop) (w : World) : Prop where
  m : ∃ A : AMap, SI ab A w ∧ (∀ t ∈ nm, (A.f t).getD 0 = E t) ∧ A.n ≤ n
  t : ¬ T ab
theorem AtN.fr {ab n n' : Nat} {E : Bs → Int} {nm : List Bs} {T T' S : Nat → Prop} {w w' : World} (h : AtN ab E nm n T w) (hf : Fr S w w') (hs : ¬ S ab) (ht : ¬ T' ab) (hn : n ≤ n') : AtN ab E nm n' T' w' := by
  obtain ⟨A, a1, a2, a3⟩ := h.m
  exact ⟨⟨A, a1.fr hf hs, a2, Nat.le_trans a3 hn⟩, ht⟩
theorem AtN.ok {ab n : Nat} {E : Bs → Int} {nm : List Bs} {T : Nat → Prop} {w : World} (h : AtN ab E nm n T w) : AtOk ab E nm T w := by
  obtain ⟨A, a1, a2, _⟩ := h.m
  exact ⟨⟨A, a1, a2⟩, h.t⟩
theorem AtN.lt {ab n : Nat} {E : Bs → Int} {nm : List Bs} {T : Nat → Prop} {w : World} (h : AtN ab E nm n T w) : ab < w.heap.size := h.ok.lt
/-- What lies there between two statements: w where the call began. -/
structure SG (c : Rk) (T : Nat → Prop) (w : World) (ob ib : Nat) (R : KR) (nm : List Bs) (T' : Nat → Prop) (q : Slc) (wr : World) : Prop where
  rp : RP c T w R.v R.ws T' wr
  fl : ∀ b, c.fs.v.ownBlock = some b → b < w.heap.size
  o : wr.cell? ⟨ob, 0, none⟩ = some q.v
  oz : wr.frozen? ⟨ob, 0, none⟩ = false
  ow : OwnI w.heap.size q R.ins wr
  a : AtN ib R.E nm R.v T' wr
  ot : ¬ T' ob
  on : w.heap.size ≤ ob ∧ w.heap.size ≤ ib ∧ ob ≠ ib
  qt : ∀ b, q.v.ownBlock = some b → ¬ T' b ∧ b ≠ ob ∧ b ≠ ib
section
variable {c : Rk} {T T' S : Nat → Prop} {w wr w2 : World} {ob ib : Nat} {R : KR} {nm : List Bs} {q : Slc}
theorem SG.ol (h : SG c T w ob ib R nm T' q wr) : ob < wr.heap.size := lt_of_cell h.o
theorem SG.il (h : SG c T w ob ib R nm T' q wr) : ib < wr.heap.size := h.a.lt
theorem SG.fr (h : SG c T w ob ib R nm T' q wr) (hf : Fr S wr w2) (hT : ∀ k, T' k → ¬ S k) (hO : ¬ S ob) (hI : ¬ S ib) (hq : ∀ b, q.v.ownBlock = some b → ¬ S b) (hS : ∀ k, S k → w.heap.size ≤ k) : SG c T w ob ib R nm T' q w2 := by
  obtain ⟨k1, k2, k3⟩ := h.rp
  exact ⟨⟨k1.fr hf hT (fun b hb e => by have := h.fl b hb; have := hS b e; omega), k2.then hf (fun k hk e => by have := hS k e; omega), k3⟩, h.fl, (hf.cell (p := ⟨ob, 0, none⟩) h.ol hO).trans h.o, (hf.frozen (p := ⟨ob, 0, none⟩) h.ol hO).trans h.oz, h.ow.fr hf hq, h.a.fr hf hI h.a.t (Nat.le_refl _), h.ot, h.on, h.qt⟩
theorem SG.new (h : SG c T w ob ib R nm T' q wr) (hf : Fr nothing wr w2) : SG c T w ob ib R nm T' q w2 := h.fr hf (fun _ _ => id) id id (fun _ _ => id) (fun _ e => e.elim)
/-- A call that is given the maker. -/
theorem SG.call (h : SG c T w ob ib R nm T' q wr) {w1 : World} (hf : Fr nothing wr w1) {v2 : Nat} {ws2 : List Bs} {T2 : Nat → Prop} (hR : RP c T' w1 v2 ws2 T2 w2) (hv : R.v ≤ v2) : SG c T w ob ib { R with v := v2, ws := ws2 } nm T2 q w2 := by
  have h1 := h.new hf
  have nT : ∀ b, ¬ T' b → b < w1.heap.size → ¬ T2 b := fun b hb hl e => (hR.2.2 b e).elim hb (fun h => by omega)
  refine ⟨hR.after h1.rp.2.1 h1.rp.2.2, h.fl, (hR.2.1.cell (p := ⟨ob, 0, none⟩) h1.ol h1.ot).trans h1.o, (hR.2.1.frozen (p := ⟨ob, 0, none⟩) h1.ol h1.ot).trans h1.oz, h1.ow.fr hR.2.1 (fun b hb => (h1.qt b hb).1), h1.a.fr hR.2.1 h1.a.t (nT _ h1.a.t h1.il) hv, nT _ h1.ot h1.ol, h.on, fun b hb => ⟨nT _ (h1.qt b hb).1 (h1.ow.lt hb).2, (h1.qt b hb).2⟩⟩
end
/-- What lies there while a statement is turned into code. -/
structure SA (c : Rk) (T : Nat → Prop) (w : World) (ob ib gb sb : Nat) (R : KR) (nm : List Bs) (T' : Nat → Prop) (q qa : Slc) (args : List In) (vs : List Value) (wr : World) : Prop where
  g : SG c T w ob ib R nm T' q wr
  gc : wr.cell? ⟨gb, 0, none⟩ = some qa.v
  gz : wr.frozen? ⟨gb, 0, none⟩ = false
  ga : OwnI w.heap.size qa args wr
  gt : ¬ T' gb
  gn : w.heap.size ≤ gb ∧ gb ≠ ob ∧ gb ≠ ib ∧ ¬ q.v.ownBlock = some gb
  qt : ∀ b, qa.v.ownBlock = some b → ¬ T' b ∧ b ≠ ob ∧ b ≠ ib ∧ b ≠ gb ∧ b ≠ sb ∧ ¬ q.v.ownBlock = some b
  st : ¬ T' sb
  sn : w.heap.size ≤ sb ∧ sb ≠ ob ∧ sb ≠ ib ∧ sb ≠ gb ∧ ¬ q.v.ownBlock = some sb
  s : ∀ j v, vs[j]? = some v → wr.cell? ⟨sb, j, none⟩ = some v
  sl : sb < wr.heap.size
section
variable {c : Rk} {T T' S : Nat → Prop} {w wr w2 : World} {ob ib gb sb : Nat} {R : KR} {nm : List Bs} {q qa : Slc} {args : List In} {vs : List Value}
theorem SA.gl (h : SA c T w ob ib gb sb R nm T' q qa args vs wr) : gb < wr.heap.size := lt_of_cell h.gc
theorem SA.fr (h : SA c T w ob ib gb sb R nm T' q qa args vs wr) (hf : Fr S wr w2) (hT : ∀ k, T' k → ¬ S k) (hO : ¬ S ob) (hI : ¬ S ib) (hG : ¬ S gb) (hB : ¬ S sb) (hq : ∀ b, q.v.ownBlock = some b → ¬ S b) (ha : ∀ b, qa.v.ownBlock = some b → ¬ S b) (hS : ∀ k, S k → w.heap.size ≤ k) : SA c T w ob ib gb sb R nm T' q qa args vs w2 :=
  ⟨h.g.fr hf hT hO hI hq hS, (hf.cell (p := ⟨gb, 0, none⟩) h.gl hG).trans h.gc, (hf.frozen (p := ⟨gb, 0, none⟩) h.gl hG).trans h.gz, h.ga.fr hf ha, h.gt, h.gn, h.qt, h.st, h.sn, fun j v hv => (hf.cell (p := ⟨sb, j, none⟩) h.sl hB).trans (h.s j v hv), Nat.lt_of_lt_of_le h.sl hf.size⟩
theorem SA.new (h : SA c T w ob ib gb sb R nm T' q qa args vs wr) (hf : Fr nothing wr w2) : SA c T w ob ib gb sb R nm T' q qa args vs w2 := h.fr hf (fun _ _ => id) id id id id (fun _ _ => id) (fun _ _ => id) (fun _ e => e.elim)
theorem SA.call (h : SA c T w ob ib gb sb R nm T' q qa args vs wr) {w1 : World} (hf : Fr nothing wr w1) {v2 : Nat} {ws2 : List Bs} {T2 : Nat → Prop} (hR : RP c T' w1 v2 ws2 T2 w2) (hv : R.v ≤ v2) : SA c T w ob ib gb sb { R with v := v2, ws := ws2 } nm T2 q qa args vs w2 := by
  have h1 := h.new hf
  have nT : ∀ b, ¬ T' b → b < w1.heap.size → ¬ T2 b := fun b hb hl e => (hR.2.2 b e).elim hb (fun h => by omega)
  exact ⟨h.g.call hf hR hv, (hR.2.1.cell (p := ⟨gb, 0, none⟩) h1.gl h1.gt).trans h1.gc, (hR.2.1.frozen (p := ⟨gb, 0, none⟩) h1.gl h1.gt).trans h1.gz, h1.ga.fr hR.2.1 (fun b hb => (h1.qt b hb).1), nT _ h1.gt h1.gl, h.gn, fun b hb => ⟨nT _ (h1.qt b hb).1 (h1.ga.lt hb).2, (h1.qt b hb).2⟩, nT _ h1.st h1.sl, h.sn, fun j v hv => (hR.2.1.cell (p := ⟨sb, j, none⟩) h1.sl h1.st).trans (h1.s j v hv), Nat.lt_of_lt_of_le h1.sl hR.2.1.size⟩
/-- A statement's list of instructions begins. -/
theorem SG.begin (h : SG c T w ob ib R nm T' q wr) {a0 : Value} (O : Obj) (hO : ∃ t cs, O = .cells cs t ∧ vs = cs.toList) (gt : TypeId) (_ : a0 = .slice none 0 0) : SA c T w ob ib (wr.heap.size + 1) wr.heap.size R nm T' q nilS [] vs ((wr.alloc O).alloc (.cells #[a0] gt)) := by
  subst a0
  have hf1 : Fr nothing wr (wr.alloc O) := (Fr.refl _ _).alloc _
  have hf2 : Fr nothing (wr.alloc O) ((wr.alloc O).alloc (.cells #[.slice none 0 0] gt)) := (Fr.refl _ _).alloc _
  have hm := made_cells (cs := #[.slice none 0 0]) (t := gt) (w := wr.alloc O) (Fr.refl nothing _) id
  have hsz : (wr.alloc O).heap.size = wr.heap.size + 1 := by simp
  rw [hsz] at hm
  have hn := h.rp.1.tl
  have hw := h.rp.2.1.size
  have ho := h.ol
  have hi := h.il
  obtain ⟨t, cs, rfl, rfl⟩ := hO
  have hs := made_cells (cs := cs) (t := t) (w := wr) hf2 id
  refine ⟨(h.new hf1).new hf2, hm.1 0, hm.2.1 0, OwnI.nil _ _, fun e => by have := hn _ e; omega, ⟨by omega, by omega, by omega, fun e => by have := (h.ow.lt e).2; omega⟩, fun b hb => (by cases hb), fun e => by have := hn _ e; omega, ⟨by omega, by omega, by omega, by omega, fun e => by have := (h.ow.lt e).2; omega⟩, fun j v hv => ?_, hs.2.2⟩
  rw [hs.1 j]
  simpa using hv
/-- A piece more. -/
theorem SA.put (h : SA c T w ob ib gb sb R nm T' q qa args vs wr) {q3 : Slc} {ys : List In} (hs : Sl encI 3 wr q3.v ys) (hl : args.length + ys.length ≤ 1000000) :
    ∃ (q4 : Slc) (w4 : World), (Builtin.append_ #[52, 52] 52 #[.slice qa.a qa.n qa.c, .slice q3.a q3.n q3.c]).run Tryd.prog wr = .ok (.slice q4.a q4.n q4.c) w4 ∧ Fr (fun k => qa.v.ownBlock = some k) wr w4 ∧ SA c T w ob ib gb sb R nm T' q q4 (args ++ ys) vs (w4.setCell ⟨gb, 0, none⟩ (.slice q4.a q4.n q4.c)) := by
  obtain ⟨q4, w4, hrun, own4, hF4, hat4⟩ := h.ga.app hs h.g.rp.2.1.size hl
  have hg4 := (hF4.cell (p := ⟨gb, 0, none⟩) h.gl (fun e => (h.qt _ e).2.2.2.1 rfl)).trans h.gc
  have hz4 := (hF4.frozen (p := ⟨gb, 0, none⟩) h.gl (fun e => (h.qt _ e).2.2.2.1 rfl)).trans h.gz
  obtain ⟨e1, e2, hf5⟩ := set_one w4 gb 0 (.slice q4.a q4.n q4.c) hg4
  have hS : Fr (fun k => qa.v.ownBlock = some k ∨ k = gb) wr (w4.setCell ⟨gb, 0, none⟩ (.slice q4.a q4.n q4.c)) := (hF4.mono (fun _ _ e => .inl e)).trans (hf5.mono (fun _ _ e => .inr e))
  have hq4 : ∀ b, q4.v.ownBlock = some b → ¬ T' b ∧ b ≠ ob ∧ b ≠ ib ∧ b ≠ gb ∧ b ≠ sb ∧ ¬ q.v.ownBlock = some b := fun b hb => by
    rcases hat4 b hb with e | e
    · exact h.qt b e
    · have := h.g.ol
      have := h.g.il
      have := h.gl
      have := h.sl
      exact ⟨fun e => by have := h.g.rp.1.tl b e; omega, by omega, by omega, by omega, by omega, fun e => by have := (h.g.ow.lt e).2; omega⟩
  refine ⟨q4, w4, hrun, hF4, h.g.fr hS ?_ ?_ ?_ ?_ ?_, e1, by rw [World.frozen?_setCell]; exact hz4, own4.fr hf5 (fun b hb e => (hq4 b hb).2.2.2.1 e), h.gt, h.gn, hq4, h.st, h.sn, fun j v hv => (hS.cell (p := ⟨sb, j, none⟩) h.sl ?_).trans (h.s j v hv), Nat.lt_of_lt_of_le h.sl hS.size⟩
  · rintro k hk (e | e)
    · exact (h.qt k e).1 hk
    · exact h.gt (e ▸ hk)
  · rintro (e | e)
    · exact (h.qt _ e).2.1 rfl
    · exact h.gn.2.1 e.symm
  · rintro (e | e)
    · exact (h.qt _ e).2.2.1 rfl
    · exact h.gn.2.2.1 e.symm
  · rintro b hb (e | e)
    · exact (h.qt _ e).2.2.2.2.2 hb
    · exact h.gn.2.2.2 (e ▸ hb)
  · rintro k (e | e)
    · exact (h.ga.lt e).1
    · rw [e]; exact h.gn.1
  · rintro (e | e)
    · exact (h.qt _ e).2.2.2.2.1 rfl
    · exact h.sn.2.2.2.1 e
/-- The statement's end: something new is what there is. -/
theorem SA.out (h : SA c T w ob ib gb sb R nm T' q qa args vs wr) {q' : Slc} {is : List In} (hf : Fr (fun k => k = ob ∨ qa.v.ownBlock = some k) wr w2) (hc : w2.cell? ⟨ob, 0, none⟩ = some q'.v) (hz : w2.frozen? ⟨ob, 0, none⟩ = false) (ho : OwnI wr.heap.size q' is w2) : SG c T w ob ib { R with ins := is } nm T' q' w2 := by
  obtain ⟨k1, k2, k3⟩ := h.g.rp
  have n1 : ∀ k, w.heap.size ≤ k ∨ ¬ (k = ob ∨ qa.v.ownBlock = some k) := fun k => by
    by_cases hk : w.heap.size ≤ k
    · exact .inl hk
    · refine .inr ?_
      rintro (e | e)
      · have := h.g.on.1; omega
      · have := (h.ga.lt e).1; omega
  refine ⟨⟨k1.fr hf ?_ ?_, k2.then hf (fun k hk e => by rcases n1 k with h | h; omega; exact absurd e h), k3⟩, h.g.fl, hc, hz, ⟨ho.n, ho.row.mono k2.size⟩, h.g.a.fr hf ?_ h.g.a.t (Nat.le_refl _), h.g.ot, h.g.on, fun b hb => ?_⟩
  · rintro k hk (e | e)
    · exact h.g.ot (e ▸ hk)
    · exact (h.qt k e).1 hk
  · intro b hb e
    rcases n1 b with h1 | h1
    · have := h.g.fl b hb; omega
    · exact h1 e
  · rintro (e | e)
    · exact h.g.on.2.2 e.symm
    · exact (h.qt _ e).2.2.1 rfl
  · have := (ho.lt hb).1
    have := h.g.ol
    have := h.g.il
    exact ⟨fun e => by have := k1.tl b e; omega, by omega, by omega⟩
end
end Go.Proofs.YtpemfikdmkmgbaaDoor
end
section
/- The document's own answer: code of statements: steps. -/
set_option maxHeartbeats 0
set_option maxRecDepth 100000
namespace Go.Proofs.YtpemfikdmkmgbaaDoor
open Go Go.RowKit
section
variable {c : Rk} {T T' S : Nat → Prop} {w wr w2 : World} {ob ib gb sb : Nat} {R : KR} {nm : List Bs} {q qa : Slc} {args : List In} {vs : List Value}
theorem SA.one (h : SA c T w ob ib gb sb R nm T' q qa args vs wr) (op a : Int) (hop : op ≠ 15 ∧ op ≠ 16) (hno : NoJ args) (hl1 : R.ins.length ≤ 300000) (hl2 : args.length ≤ 300000) :
    Calls Tryd.prog 60 #[.int .i64 op, .int .i64 a, .pointer (some ⟨ob, 0, none⟩), .pointer (some ⟨gb, 0, none⟩)] wr fun e w' => e = .returned (.tuple #[]) ∧ ∃ q' : Slc, SG c T w ob ib { R with ins := R.ins ++ (args ++ [⟨op, a, 0⟩]) } nm T' q' w' := by
  refine (one_any ob gb w.heap.size w.heap.size q qa R.ins args wr op a h.g.o h.g.ow h.gc h.ga h.g.rp.2.1.size (fun b hb => ⟨(h.qt b hb).2.1, (h.qt b hb).2.2.2.1, (h.qt b hb).2.2.2.2.2⟩) h.g.oz hl1 hl2 (hno.app (fun x hx => by rw [List.mem_singleton.1 hx]; exact hop))).mono ?_
  rintro e w' ⟨rfl, q', h1, h2, h3, h4⟩
  exact ⟨rfl, q', h.out h3 h1 h4 h2⟩
theorem AtN.look {n : Nat} {E : Bs → Int} (h : AtN ib E nm n T w) {t : Bs} (hm : t ∈ nm) (ht : t.length ≤ 1500) : (Instr.lookup 119 (.map (some ib)) (.string (bs t)) false).run Tryd.prog w = .ok (.int .i64 (E t)) w := by
  obtain ⟨A, a1, a2, _⟩ := h.m
  rw [a1.look t (by omega), a2 t hm]
theorem SA.let_ (h : SA c T w ob ib gb sb R nm T' q qa args vs wr) (t : Bs) (ht : t.length ≤ 1500) (hv : R.v ≤ 100000) :
    ∃ w1, (Instr.mapUpdate 119 (.map (some ib)) (.string (bs t)) (.int .i64 (R.v : Nat))).run Tryd.prog wr = .ok () w1 ∧ Fr (fun k => k = ib) wr w1 ∧ w1.cell? ⟨c.mb, 2, none⟩ = some (.int .i64 (R.v : Nat)) ∧ w1.frozen? ⟨c.mb, 2, none⟩ = false ∧ c.mb < w1.heap.size ∧
      SA c T w ob ib gb sb { R with E := upd R.E t R.v, v := R.v + 1 } (nm ++ [t]) T' q qa args vs (w1.setCell ⟨c.mb, 2, none⟩ (.int .i64 (R.v + 1 : Nat))) := by
  obtain ⟨A, a1, a2, a3⟩ := h.g.a.m
  obtain ⟨w1, hrun, b1, hf⟩ := a1.store t (by omega) R.v (by omega) (by omega) (by omega)
  obtain ⟨k1, k2, k3⟩ := h.g.rp
  have niT : ∀ k, T' k → ¬ k = ib := fun k hk e => h.g.a.t (e ▸ hk)
  have k1' := k1.fr hf niT (fun b hb e => by have := h.g.fl b hb; have := h.g.on.2.1; omega)
  obtain ⟨v1, v2⟩ := k1'.vars (R.v + 1)
  have hF : Fr (fun k => k = ib ∨ k = c.mb) wr (w1.setCell ⟨c.mb, 2, none⟩ (.int .i64 (R.v + 1 : Nat))) := (hf.mono (fun _ _ e => .inl e)).trans (v2.mono (fun _ _ e => .inr e))
  have nm' : ∀ b, ¬ T' b → b ≠ c.mb := fun b hb e => hb (e ▸ k1.tm)
  refine ⟨w1, hrun, hf, k1'.c2, k1'.fz 2, k1'.ml, ⟨⟨v1, (k2.then hf (fun k hk e => by have := h.g.on.2.1; omega)).then v2 ?_, k3⟩, h.g.fl, ?_, ?_, h.g.ow.fr hF ?_, ⟨⟨A.put t R.v, b1.fr v2 (nm' _ h.g.a.t), fun u hu => ?_, ?_⟩, h.g.a.t⟩, h.g.ot, h.g.on, h.g.qt⟩, ?_, ?_, h.ga.fr hF ?_, h.gt, h.gn, h.qt, h.st, h.sn, fun j v hv => ?_, Nat.lt_of_lt_of_le h.sl hF.size⟩
  · intro k hk e
    rcases k3 c.mb k1.tm with h1 | h1
    · exact e ▸ h1
    · omega
  · refine (hF.cell (p := ⟨ob, 0, none⟩) h.g.ol ?_).trans h.g.o
    rintro (e | e)
    · exact h.g.on.2.2 e
    · exact nm' _ h.g.ot e
  · refine (hF.frozen (p := ⟨ob, 0, none⟩) h.g.ol ?_).trans h.g.oz
    rintro (e | e)
    · exact h.g.on.2.2 e
    · exact nm' _ h.g.ot e
  · rintro b hb (e | e)
    · exact (h.g.qt b hb).2.2 e
    · exact nm' _ (h.g.qt b hb).1 e
  · simp only [AMap.put, upd]
    by_cases hx : u = t
    · simp [hx]
    · rcases List.mem_append.1 hu with hu | hu
      · simp [hx, a2 u hu]
      · exact absurd (List.mem_singleton.1 hu) hx
  · unfold AMap.put
    simp only
    split <;> omega
  · refine (hF.cell (p := ⟨gb, 0, none⟩) h.gl ?_).trans h.gc
    rintro (e | e)
    · exact h.gn.2.2.1 e
    · exact nm' _ h.gt e
  · refine (hF.frozen (p := ⟨gb, 0, none⟩) h.gl ?_).trans h.gz
    rintro (e | e)
    · exact h.gn.2.2.1 e
    · exact nm' _ h.gt e
  · rintro b hb (e | e)
    · exact (h.qt b hb).2.2.1 e
    · exact nm' _ (h.qt b hb).1 e
  · refine (hF.cell (p := ⟨sb, j, none⟩) h.sl ?_).trans (h.s j v hv)
    rintro (e | e)
    · exact h.sn.2.2.1 e
    · exact nm' _ h.st e
end
/-- What statements' code is called for. -/
def SP (c : Rk) (T : Nat → Prop) (w : World) (R : KR) (e : Ending) (w' : World) : Prop :=
  ∃ (q : Slc) (T' : Nat → Prop), e = .returned (.slice q.a q.n q.c) ∧ OwnI w.heap.size q R.ins w' ∧ RP c T w R.v R.ws T' w' ∧ ∀ b, q.v.ownBlock = some b → ¬ T' b
mutual
def stKe : St → Prop
  | .mk k _ a x y => 1 ≤ k ∧ k ≤ 9 ∧ exsKd a ∧ stsKe x ∧ stsKe y
def stsKe : List St → Prop
  | [] => True
  | s :: l => stKe s ∧ stsKe l
end
theorem stsKe_mem : ∀ {l : List St}, stsKe l → ∀ x ∈ l, stKe x
  | y :: l, h, x, hx => by
    rw [stsKe] at h
    rcases List.mem_cons.1 hx with rfl | hx
    · exact h.1
    · exact stsKe_mem h.2 x hx
def RSts (l : List Fn) (L : List St) : Prop := ∀ (c : Rk) (T : Nat → Prop) (v : Nat) (ws : List Bs) (E : Bs → Int) (nm : List Bs) (ab : Nat) (sl : Slc) (rs : List RawS) (w : World), RI c T v ws w → FnNames c l → AtN ab E nm v T w → Sl encS 5 w sl.v rs → (∀ k, sl.v.ownBlock = some k → ap T w k) → Each (StOk w (ap T w)) rs L → stsU (HasN l) L nm → v + stsN L ≤ 100000 → ws.length + stsN L ≤ 100000 → stsN L ≤ 100000 → (∀ s ∈ L, StSh s) → stsKe L →
  Calls Tryd.prog 47 #[.pointer (some ⟨c.mb, 0, none⟩), .slice sl.a sl.n sl.c, .map (some ab)] w (SP c T w (stsK (gOf l) L E v ws 0))
theorem stsN_take_le (l : List St) (j : Nat) (hj : j < l.length) : stsN (l.take j) + stN l[j] ≤ stsN l := by
  induction l generalizing j with
  | nil => simp at hj
  | cons x l ih =>
    cases j with
    | zero => simp [stsN]
    | succ j =>
      have := ih j (by simpa using hj)
      rw [List.take_succ_cons, stsN, stsN]
      simp only [List.getElem_cons_succ]
      omega
mutual
theorem stK_v (G : Bs → Int) : ∀ (s : St) (E : Bs → Int) (v : Nat) (ws : List Bs) (o : Nat), v ≤ (stK G s E v ws o).v
  | .mk k t a x y, E, v, ws, o => by
    by_cases h1 : k = 1
    · subst h1; rw [stK_let rfl]; exact Nat.le_succ _
    by_cases h2 : k = 2
    · subst h2; rw [stK_set rfl]; exact Nat.le_refl _
    by_cases h3 : k = 3
    · subst h3
      rw [stK_if rfl rfl rfl]
      exact Nat.le_trans (stsK_v G x _ _ _ _) (stsK_v G y _ _ _ _)
    by_cases h4 : k = 4
    · subst h4
      rw [stK_while rfl rfl]
      exact stsK_v G x _ _ _ _
    · rw [stK_plain rfl h1 h2 h3 h4]; exact Nat.le_refl _
theorem stsK_v (G : Bs → Int) : ∀ (l : List St) (E : Bs → Int) (v : Nat) (ws : List Bs) (o : Nat), v ≤ (stsK G l E v ws o).v
  | [], E, v, ws, o => by rw [stsK_nil]; exact Nat.le_refl _
  | s :: l, E, v, ws, o => by
    rw [stsK_cons rfl rfl]
    exact Nat.le_trans (stK_v G s _ _ _ _) (stsK_v G l _ _ _ _)
end
end Go.Proofs.YtpemfikdmkmgbaaDoor
end
section
/- The document's own answer: code of statements: a copy of a list with an instruction behind it, in its three orders. -/
set_option maxHeartbeats 0
set_option maxRecDepth 100000
namespace Go.Proofs.YtpemfikdmkmgbaaDoor
open Go Go.RowKit
abbrev litO (i : In) : Obj := .cells #[.int .i64 i.op, .int .i64 i.a, .int .i64 i.b] 59
noncomputable abbrev appR (a b : Slc) (w : World) := (Builtin.append_ #[52, 52] 52 #[.slice a.a a.n a.c, .slice b.a b.n b.c]).run Tryd.prog w
theorem ordA (w : World) (qa : Slc) (xs : List In) (i : In) (hs : Sl encI 3 w qa.v xs) (hl : xs.length ≤ 900000) : ∃ (q5 : Slc) (W2 : World) (q7 : Slc) (W4 : World),
    appR ⟨some ⟨w.heap.size, 0, none⟩, 0, 0⟩ qa (w.alloc (.cells #[] 59)).drew = .ok (.slice q5.a q5.n q5.c) W2 ∧ Fr nothing w W2 ∧ appR q5 ⟨some ⟨W2.heap.size, 0, none⟩, 1, 1⟩ (W2.alloc (litO i)) = .ok (.slice q7.a q7.n q7.c) W4 ∧ Fr nothing w W4 ∧ OwnI w.heap.size q7 (xs ++ [i]) W4 := by
  have FA : Fr nothing w (w.alloc (.cells #[] 59)).drew := ((Fr.refl nothing w).alloc _).drew
  obtain ⟨q5, W2, r1, o1, F1, t1⟩ := ((OwnI.lit w (Nat.le_refl _)).fr (Fr.refl nothing _).drew (fun _ _ => id)).app (x := qa) (hs.fr FA (fun _ _ => id)) FA.size (by simp; omega)
  have F02 : Fr nothing w W2 := FA.then F1 (fun k hk e => by have : w.heap.size = k := Option.some.inj e; omega)
  have FB : Fr nothing W2 (W2.alloc (litO i)) := (Fr.refl _ _).alloc _
  obtain ⟨q7, W4, r2, o2, F2, t2⟩ := (o1.fr FB (fun _ _ => id)).app (x := ⟨some ⟨W2.heap.size, 0, none⟩, 1, 1⟩) (sl_litI W2 i) (Nat.le_trans F02.size FB.size) (by simp; omega)
  exact ⟨q5, W2, q7, W4, r1, F02, r2, (F02.trans FB).then F2 (fun k hk e => by have := (o1.lt e).1; omega), by simpa using o2⟩
theorem ordB (w : World) (qa : Slc) (xs : List In) (i : In) (hs : Sl encI 3 w qa.v xs) (hl : xs.length ≤ 900000) : ∃ (q5 : Slc) (W2 : World) (q7 : Slc) (W4 : World),
    appR ⟨some ⟨w.heap.size, 0, none⟩, 0, 0⟩ qa ((w.alloc (.cells #[] 59)).alloc (litO i)).drew = .ok (.slice q5.a q5.n q5.c) W2 ∧ Fr nothing w W2 ∧ appR q5 ⟨some ⟨w.heap.size + 1, 0, none⟩, 1, 1⟩ W2 = .ok (.slice q7.a q7.n q7.c) W4 ∧ Fr nothing w W4 ∧ OwnI w.heap.size q7 (xs ++ [i]) W4 := by
  have F1a : Fr nothing (w.alloc (.cells #[] 59)) ((w.alloc (.cells #[] 59)).alloc (litO i)).drew := ((Fr.refl nothing _).alloc _).drew
  have FA : Fr nothing w ((w.alloc (.cells #[] 59)).alloc (litO i)).drew := (((Fr.refl nothing w).alloc _).alloc _).drew
  have hl1 := (sl_litI (w.alloc (.cells #[] 59)) i).fr (Fr.refl nothing _).drew (fun _ _ => id)
  have hsz : (w.alloc (.cells #[] 59)).heap.size = w.heap.size + 1 := by simp
  rw [hsz] at hl1
  obtain ⟨q5, W2, r1, o1, F1, t1⟩ := ((OwnI.lit w (Nat.le_refl _)).fr F1a (fun _ _ => id)).app (x := qa) (hs.fr FA (fun _ _ => id)) FA.size (by simp; omega)
  have F02 : Fr nothing w W2 := FA.then F1 (fun k hk e => by have : w.heap.size = k := Option.some.inj e; omega)
  have hl2 := hl1.keep F1 (P := fun k => k = w.heap.size + 1) (fun b hb => by have : w.heap.size + 1 = b := Option.some.inj hb; exact this.symm) (fun k hk e => by have : w.heap.size = k := Option.some.inj e; omega)
  obtain ⟨q7, W4, r2, o2, F2, t2⟩ := o1.app (x := ⟨some ⟨w.heap.size + 1, 0, none⟩, 1, 1⟩) hl2 F02.size (by simp; omega)
  exact ⟨q5, W2, q7, W4, r1, F02, r2, F02.then F2 (fun k hk e => by have := (o1.lt e).1; omega), by simpa using o2⟩
theorem ordC (w : World) (qa : Slc) (xs : List In) (i : In) (hs : Sl encI 3 w qa.v xs) (hl : xs.length ≤ 900000) : ∃ (q5 : Slc) (W2 : World) (q7 : Slc) (W4 : World),
    appR ⟨some ⟨w.heap.size + 1, 0, none⟩, 0, 0⟩ qa ((w.alloc (litO i)).alloc (.cells #[] 59)).drew = .ok (.slice q5.a q5.n q5.c) W2 ∧ Fr nothing w W2 ∧ appR q5 ⟨some ⟨w.heap.size, 0, none⟩, 1, 1⟩ W2 = .ok (.slice q7.a q7.n q7.c) W4 ∧ Fr nothing w W4 ∧ OwnI w.heap.size q7 (xs ++ [i]) W4 := by
  have F1a : Fr nothing (w.alloc (litO i)) ((w.alloc (litO i)).alloc (.cells #[] 59)).drew := ((Fr.refl nothing _).alloc _).drew
  have FA : Fr nothing w ((w.alloc (litO i)).alloc (.cells #[] 59)).drew := (((Fr.refl nothing w).alloc _).alloc _).drew
  have hl1 := (sl_litI w i).fr F1a (fun _ _ => id)
  have hsz : (w.alloc (litO i)).heap.size = w.heap.size + 1 := by simp
  have hown := (OwnI.lit (base := w.heap.size) (w.alloc (litO i)) (by rw [hsz]; omega)).fr (Fr.refl nothing _).drew (fun _ _ => id)
  rw [hsz] at hown
  obtain ⟨q5, W2, r1, o1, F1, t1⟩ := hown.app (x := qa) (hs.fr FA (fun _ _ => id)) FA.size (by simp; omega)
  have F02 : Fr nothing w W2 := FA.then F1 (fun k hk e => by have : w.heap.size + 1 = k := Option.some.inj e; omega)
  have hl2 := hl1.keep F1 (P := fun k => k = w.heap.size) (fun b hb => by have : w.heap.size = b := Option.some.inj hb; exact this.symm) (fun k hk e => by have : w.heap.size + 1 = k := Option.some.inj e; omega)
  have nown : ∀ b, q5.v.ownBlock = some b → w.heap.size ≤ b := fun b hb => (o1.lt hb).1
  obtain ⟨q7, W4, r2, o2, F2, t2⟩ := o1.app (x := ⟨some ⟨w.heap.size, 0, none⟩, 1, 1⟩) hl2 F02.size (by simp; omega)
  exact ⟨q5, W2, q7, W4, r1, F02, r2, F02.then F2 (fun k hk e => by have := nown k e; omega), by simpa using o2⟩
theorem while_is (G E : Bs → Int) (v : Nat) (ws : List Bs) (t : Bs) (a : List Ex) (x y : List St) (A : XR) (X : KR) (hA : exsK G E a ws = A) (hX : stsK G x E v A.ws 0 = X) (o : Nat) :
    stK G (.mk 4 t a x y) E v ws o = ⟨shiftI (o : Nat) (((A.ins ++ [⟨16, ((A.ins.length : Nat) : Int) + ((X.ins.length : Nat) : Int) + 2, 0⟩]) ++ shiftI ((A.ins ++ [In.mk 16 (((A.ins.length : Nat) : Int) + ((X.ins.length : Nat) : Int) + 2) 0]).length : Nat) X.ins) ++ [⟨15, 0, 0⟩]), E, X.v, X.ws⟩ := by
  have h0 := stK_from G (.mk 4 t a x y) E v ws o
  have hx := stsK_from G x E v A.ws (0 + A.ins.length + 1)
  rw [hX] at hx
  have hw := stK_while (G := G) (E := E) (t := t) (a := a) (x := x) (y := y) (v := v) (ws := ws) (o := 0) hA rfl
  have hl : (stsK G x E v A.ws (0 + A.ins.length + 1)).ins.length = X.ins.length := by rw [hx.i, shiftI_len]
  rw [hl, hx.i, hx.v, hx.w] at hw
  rw [hw] at h0
  have e1 : ((0 + A.ins.length + X.ins.length + 2 : Nat) : Int) = ((A.ins.length : Nat) : Int) + ((X.ins.length : Nat) : Int) + 2 := by omega
  have e2 : 0 + A.ins.length + 1 = (A.ins ++ [(⟨16, ((A.ins.length : Nat) : Int) + ((X.ins.length : Nat) : Int) + 2, 0⟩ : In)]).length := by simp
  rw [e1, e2] at h0
  obtain ⟨i1, i2, i3, i4⟩ := h0
  generalize stK G (.mk 4 t a x y) E v ws o = Q at *
  obtain ⟨q1, q2, q3, q4⟩ := Q
  simp only at i1 i2 i3 i4
  subst i2 i3 i4
  rw [i1]
  simp
theorem if_is (G E : Bs → Int) (v : Nat) (ws : List Bs) (t : Bs) (a : List Ex) (x y : List St) (A : XR) (X Y : KR) (hA : exsK G E a ws = A) (hX : stsK G x E v A.ws 0 = X) (hY : stsK G y E X.v X.ws 0 = Y) (o : Nat) (P1 P2 P3 : List In) (h1 : P1 = A.ins ++ [⟨16, ((A.ins.length : Nat) : Int) + ((X.ins.length : Nat) : Int) + 2, 0⟩]) (h2 : P2 = P1 ++ shiftI (P1.length : Nat) X.ins) (h3 : P3 = P2 ++ [⟨15, ((A.ins.length : Nat) : Int) + ((X.ins.length : Nat) : Int) + 2 + ((Y.ins.length : Nat) : Int), 0⟩]) :
    stK G (.mk 3 t a x y) E v ws o = ⟨shiftI (o : Nat) (P3 ++ shiftI (P3.length : Nat) Y.ins), E, Y.v, Y.ws⟩ := by
  have h0 := stK_from G (.mk 3 t a x y) E v ws o
  have hx := stsK_from G x E v A.ws (0 + A.ins.length + 1)
  rw [hX] at hx
  have hw := stK_if (G := G) (E := E) (t := t) (a := a) (x := x) (y := y) (v := v) (ws := ws) (o := 0) hA rfl rfl
  have hl : (stsK G x E v A.ws (0 + A.ins.length + 1)).ins.length = X.ins.length := by rw [hx.i, shiftI_len]
  rw [hl, hx.i, hx.v, hx.w] at hw
  have hy := stsK_from G y E X.v X.ws (0 + A.ins.length + X.ins.length + 2)
  rw [hY] at hy
  have hm : (stsK G y E X.v X.ws (0 + A.ins.length + X.ins.length + 2)).ins.length = Y.ins.length := by rw [hy.i, shiftI_len]
  rw [hm, hy.i, hy.v, hy.w] at hw
  rw [hw] at h0
  have e1 : ((0 + A.ins.length + X.ins.length + 2 : Nat) : Int) = ((A.ins.length : Nat) : Int) + ((X.ins.length : Nat) : Int) + 2 := by omega
  have e3 : ((0 + A.ins.length + X.ins.length + 2 + Y.ins.length : Nat) : Int) = ((A.ins.length : Nat) : Int) + ((X.ins.length : Nat) : Int) + 2 + ((Y.ins.length : Nat) : Int) := by omega
  have e2 : 0 + A.ins.length + 1 = P1.length := by rw [h1]; simp
  have e4 : ((P3.length : Nat) : Int) = ((A.ins.length : Nat) : Int) + ((X.ins.length : Nat) : Int) + 2 := by
    have : P3.length = A.ins.length + X.ins.length + 2 := by rw [h3, h2, h1]; simp [shiftI_len]; omega
    omega
  rw [e3, e1, e2] at h0
  obtain ⟨i1, i2, i3, i4⟩ := h0
  generalize stK G (.mk 3 t a x y) E v ws o = Q at *
  obtain ⟨q1, q2, q3, q4⟩ := Q
  simp only at i1 i2 i3 i4
  subst i2 i3 i4
  rw [i1]
  rw [e4]
  rw [h3, h2]
  generalize P1.length = n1
  rw [h1]
  simp
end Go.Proofs.YtpemfikdmkmgbaaDoor
end
section
/- The document's own answer: code of statements: the end of an if and of a while. -/
set_option maxHeartbeats 0
set_option maxRecDepth 100000
namespace Go.Proofs.YtpemfikdmkmgbaaDoor
open Go Go.RowKit
/-- What is stored in the end. -/
theorem SA.stored {c : Rk} {T T' : Nat → Prop} {w W0 W4 W5 : World} {ob ib gb sb : Nat} {R Q : KR} {nm : List Bs} {q qa q8 : Slc} {args is : List In} {vs : List Value} (h : SA c T w ob ib gb sb R nm T' q qa args vs W0) (hF : Fr nothing W0 W4) (hfo : Fr (fun k => k = ob) W4 W5) (hc : W5.cell? ⟨ob, 0, none⟩ = some q8.v) (hz : W5.frozen? ⟨ob, 0, none⟩ = false) {b : Nat} (hb : W0.heap.size ≤ b) (own : OwnI b q8 is W4) (hQ : Q = { R with ins := is }) : SG c T w ob ib Q nm T' q8 W5 := by
  subst hQ
  refine h.out ((hF.mono (fun _ _ e => e.elim)).trans (hfo.mono (fun _ _ e => .inl e))) hc hz ?_
  have hne : ∀ k, q8.v.ownBlock = some k → ¬ k = ob := fun k hk e => by
    have := (own.lt hk).1
    have := h.g.ol
    omega
  have o2 := own.fr hfo hne
  exact ⟨o2.n, o2.row.mono hb⟩
theorem JOk.app {a b : List In} (ha : ∀ x ∈ a, JOk x) (hb : ∀ x ∈ b, JOk x) : ∀ x ∈ a ++ b, JOk x := fun x hx => by
  rcases List.mem_append.1 hx with h | h
  · exact ha x h
  · exact hb x h
theorem JOk.no {a : List In} (ha : NoJ a) : ∀ x ∈ a, JOk x := fun x hx e => by have := ha x hx; omega
theorem JOk.shift {l : List In} {n m : Nat} (h : JIn 0 n l) (hn : n + m ≤ 1000000) : ∀ x ∈ shiftI (m : Nat) l, JOk x := fun x hx => by
  unfold shiftI at hx
  obtain ⟨y, hy, rfl⟩ := List.mem_map.1 hx
  unfold shI
  by_cases e : y.op = 15 ∨ y.op = 16
  · rw [if_pos e]
    intro _
    have := h y hy e
    simp only
    omega
  · rw [if_neg e]
    exact fun e2 => absurd e2 e
theorem JOk.one {op a : Int} (h : 0 ≤ a ∧ a ≤ 1000000) : ∀ x ∈ [In.mk op a 0], JOk x := fun x hx => by
  rw [List.mem_singleton.1 hx]
  exact fun _ => h
end Go.Proofs.YtpemfikdmkmgbaaDoor
end
