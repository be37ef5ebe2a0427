/- KRep; KFun; KWord. -/
import Derived.Test.YtkmdamljhagogaaDoorPartR11
import Derived.Test.YtkmdamljhagogaaDoorPartR4
section
/- The writer of package code as the machine holds it. -/
namespace Go.Proofs.YtkmdamljhagogaaDoor
open Go.RowKit

def encI (r : In) : List Value := [.int .i64 r.op, .int .i64 r.a, .int .i64 r.b]
theorem encI_len (r : In) : (encI r).length = 3 := rfl
/-- The blocks of a writer: itself, the functions' map, its names' map, what the closure of words holds (two variables, the map, the program), and where the rows begin. -/
structure Wk where
  wb : Nat
  fb : Nat
  vb : Nat
  kb : Nat
  jb : Nat
  nb : Nat
  pb : Nat
  base : Nat
  p0 : Value
abbrev Wk.cl (c : Wk) : Value := .func (.func 41) #[] #[.pointer (some ⟨c.kb, 0, none⟩), .pointer (some ⟨c.jb, 0, none⟩)]
structure Ks where
  v : Nat
  hi : Nat
  ins : List In
  E : Bs → Int
  nm : List Bs
  ws : List Bs
/-- The writer's state; T: the blocks that it may turn. -/
structure KI (c : Wk) (G : Bs → Int) (T : Nat → Prop) (s : Ks) (w : World) : Prop where
  c0 : w.cell? ⟨c.wb, 0, none⟩ = some (.map (some c.fb))
  c1 : w.cell? ⟨c.wb, 1, none⟩ = some c.cl
  c2 : w.cell? ⟨c.wb, 2, none⟩ = some (.map (some c.vb))
  c3 : w.cell? ⟨c.wb, 3, none⟩ = some (.int .i64 (s.v : Nat))
  c4 : w.cell? ⟨c.wb, 4, none⟩ = some (.int .i64 (s.hi : Nat))
  fz : ∀ j, w.frozen? ⟨c.wb, j, none⟩ = false
  wl : c.wb < w.heap.size
  fm : ∃ A, SI c.fb A w ∧ ∀ t, (A.f t).getD 0 = G t
  vm : ∃ A, SI c.vb A w ∧ (∀ t ∈ s.nm, (A.f t).getD 0 = s.E t) ∧ A.n ≤ s.v
  kc : w.cell? ⟨c.kb, 0, none⟩ = some (.map (some c.nb))
  jc : w.cell? ⟨c.jb, 0, none⟩ = some (.pointer (some ⟨c.pb, 1, none⟩))
  nm : ∃ A, SI c.nb A w ∧ (∀ t, A.f t = if s.ws.contains t then some ((wnum s.ws t : Nat) : Int) else none) ∧ A.n ≤ s.ws.length
  pz : ∀ j, w.frozen? ⟨c.pb, j, none⟩ = false
  pl : c.pb < w.heap.size
  p0 : w.cell? ⟨c.pb, 0, none⟩ = some c.p0
  rows : ∃ sl sw : Slc, w.cell? ⟨c.wb, 5, none⟩ = some sl.v ∧ w.ownsRow c.base 45 3 sl.v s.ins.length (s.ins.flatMap encI) ∧ w.cell? ⟨c.pb, 1, none⟩ = some sw.v ∧ w.ownsRow c.base 9 1 sw.v s.ws.length (s.ws.flatMap encN) ∧
    (∀ b, sl.v.ownBlock = some b → T b ∧ b ≠ c.wb ∧ b ≠ c.pb ∧ sw.v.ownBlock ≠ some b ∧ b ≠ c.vb ∧ b ≠ c.nb) ∧ (∀ b, sw.v.ownBlock = some b → T b ∧ b ≠ c.wb ∧ b ≠ c.pb ∧ b ≠ c.vb ∧ b ≠ c.nb)
  bl : c.base ≤ w.heap.size
  tt : T c.wb ∧ T c.vb ∧ T c.nb ∧ T c.pb ∧ ¬ T c.fb ∧ ¬ T c.kb ∧ ¬ T c.jb
  tl : ∀ k, T k → k < w.heap.size
  ne : c.wb ≠ c.pb ∧ c.wb ≠ c.vb ∧ c.wb ≠ c.nb ∧ c.pb ≠ c.vb ∧ c.pb ≠ c.nb ∧ c.vb ≠ c.nb
theorem KI.fl {c : Wk} {G : Bs → Int} {T : Nat → Prop} {s : Ks} {w : World} (h : KI c G T s w) : c.fb < w.heap.size ∧ c.vb < w.heap.size ∧ c.kb < w.heap.size ∧ c.jb < w.heap.size ∧ c.nb < w.heap.size := by
  obtain ⟨A, a, _⟩ := h.fm
  obtain ⟨B, b, _⟩ := h.vm
  obtain ⟨C, d, _⟩ := h.nm
  exact ⟨a.lt, b.lt, lt_of_cell h.kc, lt_of_cell h.jc, d.lt⟩
/-- What does not touch the writer's blocks. -/
theorem KI.fr {c : Wk} {G : Bs → Int} {T S : Nat → Prop} {s : Ks} {w w' : World} (h : KI c G T s w) (hf : Fr S w w') (hT : ∀ k, T k → ¬ S k) (h1 : ¬ S c.fb) (h2 : ¬ S c.kb) (h3 : ¬ S c.jb) : KI c G T s w' := by
  obtain ⟨tw, tv, tn, tp, _, _, _⟩ := h.tt
  obtain ⟨A, a1, a2⟩ := h.fm
  obtain ⟨B, b1, b2⟩ := h.vm
  obtain ⟨C, d1, d2⟩ := h.nm
  obtain ⟨sl, sw, r1, r2, r3, r4, r5, r6⟩ := h.rows
  have fl := h.fl
  have cw : ∀ j, w'.cell? ⟨c.wb, j, none⟩ = w.cell? ⟨c.wb, j, none⟩ := fun j => hf.cell (p := ⟨c.wb, j, none⟩) h.wl (hT _ tw)
  exact ⟨(cw 0).trans h.c0, (cw 1).trans h.c1, (cw 2).trans h.c2, (cw 3).trans h.c3, (cw 4).trans h.c4, fun j => (hf.frozen (p := ⟨c.wb, j, none⟩) h.wl (hT _ tw)).trans (h.fz j), Nat.lt_of_lt_of_le h.wl hf.size,
    ⟨A, a1.fr hf h1, a2⟩, ⟨B, b1.fr hf (hT _ tv), b2⟩, (hf.cell (p := ⟨c.kb, 0, none⟩) fl.2.2.1 h2).trans h.kc, (hf.cell (p := ⟨c.jb, 0, none⟩) fl.2.2.2.1 h3).trans h.jc, ⟨C, d1.fr hf (hT _ tn), d2⟩,
    fun j => (hf.frozen (p := ⟨c.pb, j, none⟩) h.pl (hT _ tp)).trans (h.pz j), Nat.lt_of_lt_of_le h.pl hf.size, (hf.cell (p := ⟨c.pb, 0, none⟩) h.pl (hT _ tp)).trans h.p0,
    ⟨sl, sw, (cw 5).trans r1, owns_fr r2 hf (fun k hk => hT k (r5 k hk).1), (hf.cell (p := ⟨c.pb, 1, none⟩) h.pl (hT _ tp)).trans r3, owns_fr r4 hf (fun k hk => hT k (r6 k hk).1), r5, r6⟩,
    Nat.le_trans h.bl hf.size, h.tt, fun k hk => Nat.lt_of_lt_of_le (h.tl k hk) hf.size, h.ne⟩
theorem KI.new {c : Wk} {G : Bs → Int} {T : Nat → Prop} {s : Ks} {w w' : World} (h : KI c G T s w) (hf : Fr nothing w w') : KI c G T s w' := h.fr hf (fun _ _ => id) id id id
/-- What a call leaves. -/
def KP (c : Wk) (G : Bs → Int) (T : Nat → Prop) (w : World) (s : Ks) (w' : World) : Prop := ∃ T', KI c G T' s w' ∧ Fr T w w' ∧ ∀ k, T' k → T k ∨ w.heap.size ≤ k
theorem KP.after {c : Wk} {G : Bs → Int} {T T1 : Nat → Prop} {s : Ks} {w w1 w2 : World} (h : KP c G T1 w1 s w2) (hf : Fr T w w1) (hT : ∀ k, T1 k → T k ∨ w.heap.size ≤ k) : KP c G T w s w2 := by
  obtain ⟨T2, k1, k2, k3⟩ := h
  refine ⟨T2, k1, hf.then k2 (fun k hk e => (hT k e).elim id (fun h => by omega)), fun k hk => ?_⟩
  rcases k3 k hk with h | h
  · exact hT k h
  · exact .inr (Nat.le_trans hf.size h)
/-- Of fewer names. -/
theorem KI.less {c : Wk} {G : Bs → Int} {T : Nat → Prop} {s : Ks} {w : World} (h : KI c G T s w) {E : Bs → Int} {nm : List Bs} (hn : ∀ t ∈ nm, t ∈ s.nm ∧ s.E t = E t) : KI c G T { s with E := E, nm := nm } w := by
  obtain ⟨B, b1, b2, b3⟩ := h.vm
  exact ⟨h.c0, h.c1, h.c2, h.c3, h.c4, h.fz, h.wl, h.fm, ⟨B, b1, fun t ht => (b2 t (hn t ht).1).trans (hn t ht).2, b3⟩, h.kc, h.jc, h.nm, h.pz, h.pl, h.p0, h.rows, h.bl, h.tt, h.tl, h.ne⟩
/-- One cell of a block. -/
theorem set_one (w : World) (b j : Nat) (u : Value) {old : Value} (ho : w.cell? ⟨b, j, none⟩ = some old) :
    (w.setCell ⟨b, j, none⟩ u).cell? ⟨b, j, none⟩ = some u ∧ (∀ i, i ≠ j → (w.setCell ⟨b, j, none⟩ u).cell? ⟨b, i, none⟩ = w.cell? ⟨b, i, none⟩) ∧ Fr (fun k => k = b) w (w.setCell ⟨b, j, none⟩ u) :=
  ⟨World.cell?_setCell_same _ _ _ ho, fun i hi => World.cell?_setCell_other w ⟨b, j, none⟩ ⟨b, i, none⟩ _ (by first | (simp; done) | (simp; omega)), (Fr.refl (fun k => k = b) w).setCell (p := ⟨b, j, none⟩) (.inl rfl) u⟩
theorem KI.count {c : Wk} {G : Bs → Int} {T : Nat → Prop} {s : Ks} {w : World} (h : KI c G T s w) (v : Nat) (hv : s.v ≤ v) : KI c G T { s with v := v } (w.setCell ⟨c.wb, 3, none⟩ (.int .i64 (v : Nat))) := by
  obtain ⟨e1, e2, hf⟩ := set_one w c.wb 3 (.int .i64 (v : Nat)) h.c3
  obtain ⟨tw, tv, tn, tp, q1, q2, q3⟩ := h.tt
  obtain ⟨A, a1, a2⟩ := h.fm
  obtain ⟨B, b1, b2, b3⟩ := h.vm
  obtain ⟨C, d1, d2⟩ := h.nm
  obtain ⟨sl, sw, r1, r2, r3, r4, r5, r6⟩ := h.rows
  have fl := h.fl
  have ne := h.ne
  have nfb : ¬ c.fb = c.wb := fun e => q1 (e ▸ tw)
  have nkb : ¬ c.kb = c.wb := fun e => q2 (e ▸ tw)
  have njb : ¬ c.jb = c.wb := fun e => q3 (e ▸ tw)
  exact ⟨(e2 0 (by decide)).trans h.c0, (e2 1 (by decide)).trans h.c1, (e2 2 (by decide)).trans h.c2, e1, (e2 4 (by decide)).trans h.c4, fun j => by rw [World.frozen?_setCell]; exact h.fz j, Nat.lt_of_lt_of_le h.wl hf.size,
    ⟨A, a1.fr hf nfb, a2⟩, ⟨B, b1.fr hf (fun e => ne.2.1 e.symm), b2, Nat.le_trans b3 hv⟩, (hf.cell (p := ⟨c.kb, 0, none⟩) fl.2.2.1 nkb).trans h.kc, (hf.cell (p := ⟨c.jb, 0, none⟩) fl.2.2.2.1 njb).trans h.jc, ⟨C, d1.fr hf (fun e => ne.2.2.1 e.symm), d2⟩,
    fun j => by rw [World.frozen?_setCell]; exact h.pz j, Nat.lt_of_lt_of_le h.pl hf.size, (hf.cell (p := ⟨c.pb, 0, none⟩) h.pl (fun e => ne.1 e.symm)).trans h.p0,
    ⟨sl, sw, (e2 5 (by decide)).trans r1, owns_fr r2 hf (fun k hk => (r5 k hk).2.1), (hf.cell (p := ⟨c.pb, 1, none⟩) h.pl (fun e => ne.1 e.symm)).trans r3, owns_fr r4 hf (fun k hk => (r6 k hk).2.1), r5, r6⟩,
    Nat.le_trans h.bl hf.size, h.tt, fun k hk => Nat.lt_of_lt_of_le (h.tl k hk) hf.size, h.ne⟩
theorem KI.high {c : Wk} {G : Bs → Int} {T : Nat → Prop} {s : Ks} {w : World} (h : KI c G T s w) (hi : Nat) : KI c G T { s with hi := hi } (w.setCell ⟨c.wb, 4, none⟩ (.int .i64 (hi : Nat))) := by
  obtain ⟨e1, e2, hf⟩ := set_one w c.wb 4 (.int .i64 (hi : Nat)) h.c4
  obtain ⟨tw, tv, tn, tp, q1, q2, q3⟩ := h.tt
  obtain ⟨A, a1, a2⟩ := h.fm
  obtain ⟨B, b1, b2⟩ := h.vm
  obtain ⟨C, d1, d2⟩ := h.nm
  obtain ⟨sl, sw, r1, r2, r3, r4, r5, r6⟩ := h.rows
  have fl := h.fl
  have ne := h.ne
  have nfb : ¬ c.fb = c.wb := fun e => q1 (e ▸ tw)
  have nkb : ¬ c.kb = c.wb := fun e => q2 (e ▸ tw)
  have njb : ¬ c.jb = c.wb := fun e => q3 (e ▸ tw)
  exact ⟨(e2 0 (by decide)).trans h.c0, (e2 1 (by decide)).trans h.c1, (e2 2 (by decide)).trans h.c2, (e2 3 (by decide)).trans h.c3, e1, fun j => by rw [World.frozen?_setCell]; exact h.fz j, Nat.lt_of_lt_of_le h.wl hf.size,
    ⟨A, a1.fr hf nfb, a2⟩, ⟨B, b1.fr hf (fun e => ne.2.1 e.symm), b2⟩, (hf.cell (p := ⟨c.kb, 0, none⟩) fl.2.2.1 nkb).trans h.kc, (hf.cell (p := ⟨c.jb, 0, none⟩) fl.2.2.2.1 njb).trans h.jc, ⟨C, d1.fr hf (fun e => ne.2.2.1 e.symm), d2⟩,
    fun j => by rw [World.frozen?_setCell]; exact h.pz j, Nat.lt_of_lt_of_le h.pl hf.size, (hf.cell (p := ⟨c.pb, 0, none⟩) h.pl (fun e => ne.1 e.symm)).trans h.p0,
    ⟨sl, sw, (e2 5 (by decide)).trans r1, owns_fr r2 hf (fun k hk => (r5 k hk).2.1), (hf.cell (p := ⟨c.pb, 1, none⟩) h.pl (fun e => ne.1 e.symm)).trans r3, owns_fr r4 hf (fun k hk => (r6 k hk).2.1), r5, r6⟩,
    Nat.le_trans h.bl hf.size, h.tt, fun k hk => Nat.lt_of_lt_of_le (h.tl k hk) hf.size, h.ne⟩
/-- An instruction more: the row has grown (w1), and the writer's field is written. -/
theorem KI.push {c : Wk} {G : Bs → Int} {T : Nat → Prop} {s : Ks} {w w1 : World} (h : KI c G T s w) {sl : Slc} (h5 : w.cell? ⟨c.wb, 5, none⟩ = some sl.v) {g cap : Nat} {x : In}
    (hr : w1.ownsRow c.base 45 3 (.slice (some ⟨g, 0, none⟩) (s.ins.length + 1) cap) (s.ins.length + 1) (s.ins.flatMap encI ++ encI x)) (hf : Fr (fun k => sl.v.ownBlock = some k) w w1) (hg : sl.v.ownBlock = some g ∨ w.heap.size ≤ g) :
    KP c G T w { s with ins := s.ins ++ [x] } (w1.setCell ⟨c.wb, 5, none⟩ (.slice (some ⟨g, 0, none⟩) (s.ins.length + 1) cap)) := by
  obtain ⟨tw, tv, tn, tp, q1, q2, q3⟩ := h.tt
  obtain ⟨A, a1, a2⟩ := h.fm
  obtain ⟨B, b1, b2⟩ := h.vm
  obtain ⟨C, d1, d2⟩ := h.nm
  obtain ⟨sl', sw, r1, r2, r3, r4, r5, r6⟩ := h.rows
  have esl : sl'.v = sl.v := by rw [r1] at h5; exact Option.some.inj h5
  rw [esl] at r2 r5
  have fl := h.fl
  have ne := h.ne
  have nfb : ¬ c.fb = c.wb := fun e => q1 (e ▸ tw)
  have nkb : ¬ c.kb = c.wb := fun e => q2 (e ▸ tw)
  have njb : ¬ c.jb = c.wb := fun e => q3 (e ▸ tw)
  have hgw : g ≠ c.wb := by
    rcases hg with hg | hg
    · exact (r5 g hg).2.1
    · have := h.wl; omega
  have cw : ∀ j, w1.cell? ⟨c.wb, j, none⟩ = w.cell? ⟨c.wb, j, none⟩ := fun j => hf.cell (p := ⟨c.wb, j, none⟩) h.wl (fun e => (r5 _ e).2.1 rfl)
  have wl1 : c.wb < w1.heap.size := Nat.lt_of_lt_of_le h.wl hf.size
  have hf2 : Fr (fun k => k = c.wb) w1 (w1.setCell ⟨c.wb, 5, none⟩ (.slice (some ⟨g, 0, none⟩) (s.ins.length + 1) cap)) := (Fr.refl (fun k => k = c.wb) w1).setCell (p := ⟨c.wb, 5, none⟩) (.inl rfl) _
  have e5 := World.cell?_setCell_same w1 ⟨c.wb, 5, none⟩ (.slice (some ⟨g, 0, none⟩) (s.ins.length + 1) cap) ((cw 5).trans h5)
  have e2 : ∀ i, i ≠ 5 → (w1.setCell ⟨c.wb, 5, none⟩ (.slice (some ⟨g, 0, none⟩) (s.ins.length + 1) cap)).cell? ⟨c.wb, i, none⟩ = w.cell? ⟨c.wb, i, none⟩ := fun i hi => (World.cell?_setCell_other w1 ⟨c.wb, 5, none⟩ ⟨c.wb, i, none⟩ _ (by first | (simp; done) | (simp; omega))).trans (cw i)
  have hF : Fr (fun k => sl.v.ownBlock = some k ∨ k = c.wb) w (w1.setCell ⟨c.wb, 5, none⟩ (.slice (some ⟨g, 0, none⟩) (s.ins.length + 1) cap)) := (hf.mono (fun _ _ e => .inl e)).trans (hf2.mono (fun _ _ e => .inr e))
  have own2 : (w1.setCell ⟨c.wb, 5, none⟩ (.slice (some ⟨g, 0, none⟩) (s.ins.length + 1) cap)).ownsRow c.base 45 3 (.slice (some ⟨g, 0, none⟩) (s.ins.length + 1) cap) (s.ins.length + 1) (s.ins.flatMap encI ++ encI x) := owns_fr hr hf2 (fun k hk e => by cases hk; exact hgw e)
  have hgl : g < w1.heap.size := (hr.lt g rfl).2
  refine ⟨fun k => T k ∨ k = g, ⟨(e2 0 (by decide)).trans h.c0, (e2 1 (by decide)).trans h.c1, (e2 2 (by decide)).trans h.c2, (e2 3 (by decide)).trans h.c3, (e2 4 (by decide)).trans h.c4, fun j => ?_, Nat.lt_of_lt_of_le wl1 hf2.size,
    ⟨A, a1.fr hF ?_, a2⟩, ⟨B, b1.fr hF ?_, b2⟩, (hF.cell (p := ⟨c.kb, 0, none⟩) fl.2.2.1 ?_).trans h.kc, (hF.cell (p := ⟨c.jb, 0, none⟩) fl.2.2.2.1 ?_).trans h.jc, ⟨C, d1.fr hF ?_, d2⟩,
    fun j => ?_, Nat.lt_of_lt_of_le h.pl hF.size, (hF.cell (p := ⟨c.pb, 0, none⟩) h.pl ?_).trans h.p0, ⟨⟨some ⟨g, 0, none⟩, s.ins.length + 1, cap⟩, sw, e5, ?_, (hF.cell (p := ⟨c.pb, 1, none⟩) h.pl ?_).trans r3, owns_fr r4 hF ?_, ?_, fun b hb => ⟨.inl (r6 b hb).1, (r6 b hb).2⟩⟩,
    Nat.le_trans h.bl hF.size, ⟨.inl tw, .inl tv, .inl tn, .inl tp, ?_, ?_, ?_⟩, ?_, h.ne⟩, ?_, ?_⟩
  · rw [World.frozen?_setCell, hf.frozen (p := ⟨c.wb, j, none⟩) h.wl (fun e => (r5 _ e).2.1 rfl)]; exact h.fz j
  · rintro (e | e); exact q1 (r5 _ e).1; exact nfb e
  · rintro (e | e); exact (r5 _ e).2.2.2.2.1 rfl; exact ne.2.1 e.symm
  · rintro (e | e); exact q2 (r5 _ e).1; exact nkb e
  · rintro (e | e); exact q3 (r5 _ e).1; exact njb e
  · rintro (e | e); exact (r5 _ e).2.2.2.2.2 rfl; exact ne.2.2.1 e.symm
  · rw [World.frozen?_setCell, hf.frozen (p := ⟨c.pb, j, none⟩) h.pl (fun e => (r5 _ e).2.2.1 rfl)]; exact h.pz j
  · rintro (e | e); exact (r5 _ e).2.2.1 rfl; exact ne.1 e.symm
  · simpa using own2
  · rintro (e | e); exact (r5 _ e).2.2.1 rfl; exact ne.1 e.symm
  · intro k hk e
    rcases e with e | e
    · exact (r5 _ e).2.2.2.1 hk
    · exact (r6 k hk).2.1 e
  · intro b hb
    obtain rfl : g = b := Option.some.inj hb
    refine ⟨.inr rfl, hgw, ?_, ?_, ?_, ?_⟩
    · rcases hg with hg | hg
      · exact (r5 g hg).2.2.1
      · have := h.pl; omega
    · rcases hg with hg | hg
      · exact (r5 g hg).2.2.2.1
      · intro e; have := (r4.lt g e).2; omega
    · rcases hg with hg | hg
      · exact (r5 g hg).2.2.2.2.1
      · have := fl.2.1; omega
    · rcases hg with hg | hg
      · exact (r5 g hg).2.2.2.2.2
      · have := fl.2.2.2.2; omega
  · rintro (e | e)
    · exact q1 e
    · rcases hg with hg | hg
      · exact q1 (e ▸ (r5 g hg).1)
      · have := fl.1; omega
  · rintro (e | e)
    · exact q2 e
    · rcases hg with hg | hg
      · exact q2 (e ▸ (r5 g hg).1)
      · have := fl.2.2.1; omega
  · rintro (e | e)
    · exact q3 e
    · rcases hg with hg | hg
      · exact q3 (e ▸ (r5 g hg).1)
      · have := fl.2.2.2.1; omega
  · rintro k (e | e)
    · exact Nat.lt_of_lt_of_le (h.tl k e) hF.size
    · subst e; exact Nat.lt_of_lt_of_le hgl hf2.size
  · exact hF.mono (fun k _ e => by rcases e with e | e; exact (r5 k e).1; exact e ▸ tw)
  · rintro k (e | e)
    · exact .inl e
    · subst e
      rcases hg with hg | hg
      · exact .inl (r5 k hg).1
      · exact .inr hg
/-- A name is a new variable: its map (w1), then the count. -/
theorem KI.let_ {c : Wk} {G : Bs → Int} {T : Nat → Prop} {s : Ks} {w : World} (h : KI c G T s w) (t : Bs) (ht : t.length ≤ 100000) (hv : s.v ≤ 100000) :
    ∃ w1, (Instr.mapUpdate 55 (.map (some c.vb)) (.string (bs t)) (.int .i64 (s.v : Nat))).run Tryd.prog w = .ok () w1 ∧ w1.cell? ⟨c.wb, 3, none⟩ = some (.int .i64 (s.v : Nat)) ∧ w1.frozen? ⟨c.wb, 3, none⟩ = false ∧ c.wb < w1.heap.size ∧
      KI c G T { s with v := s.v + 1, E := upd s.E t s.v, nm := s.nm ++ [t] } (w1.setCell ⟨c.wb, 3, none⟩ (.int .i64 ((s.v + 1 : Nat)))) ∧ Fr T w (w1.setCell ⟨c.wb, 3, none⟩ (.int .i64 ((s.v + 1 : Nat)))) := by
  obtain ⟨tw, tv, tn, tp, q1, q2, q3⟩ := h.tt
  obtain ⟨A, a1, a2⟩ := h.fm
  obtain ⟨B, b1, b2, b3⟩ := h.vm
  obtain ⟨C, d1, d2⟩ := h.nm
  obtain ⟨sl, sw, r1, r2, r3, r4, r5, r6⟩ := h.rows
  have fl := h.fl
  have ne := h.ne
  obtain ⟨w1, run, b4, hf⟩ := b1.store t ht s.v (by omega) (by omega) (by omega)
  have nfb : ¬ c.fb = c.vb := fun e => q1 (e ▸ tv)
  have nkb : ¬ c.kb = c.vb := fun e => q2 (e ▸ tv)
  have njb : ¬ c.jb = c.vb := fun e => q3 (e ▸ tv)
  have cw : ∀ j, w1.cell? ⟨c.wb, j, none⟩ = w.cell? ⟨c.wb, j, none⟩ := fun j => hf.cell (p := ⟨c.wb, j, none⟩) h.wl ne.2.1
  have hn : (B.put t s.v).n ≤ s.v + 1 := by unfold AMap.put; dsimp only; split <;> omega
  have hvm : ∀ x ∈ s.nm ++ [t], ((B.put t s.v).f x).getD 0 = upd s.E t s.v x := by
    intro x hx
    unfold AMap.put upd
    dsimp only
    by_cases e : x = t
    · simp [e]
    · rw [if_neg e, if_neg e]
      rcases List.mem_append.1 hx with h1 | h1
      · exact b2 x h1
      · exact absurd (List.mem_singleton.1 h1) e
  have k0 : KI c G T { s with v := s.v + 1, E := upd s.E t s.v, nm := s.nm ++ [t] } (w1.setCell ⟨c.wb, 3, none⟩ (.int .i64 ((s.v + 1 : Nat)))) := by
    obtain ⟨e1, e2, hf2⟩ := set_one w1 c.wb 3 (.int .i64 ((s.v + 1 : Nat))) ((cw 3).trans h.c3)
    have hF : Fr (fun k => k = c.vb ∨ k = c.wb) w (w1.setCell ⟨c.wb, 3, none⟩ (.int .i64 ((s.v + 1 : Nat)))) := (hf.mono (fun _ _ e => .inl e)).trans (hf2.mono (fun _ _ e => .inr e))
    have no : ∀ k, ¬ T k → ¬ (k = c.vb ∨ k = c.wb) := by
      rintro k hk (e | e)
      · exact hk (e ▸ tv)
      · exact hk (e ▸ tw)
    exact ⟨(e2 0 (by decide)).trans ((cw 0).trans h.c0), (e2 1 (by decide)).trans ((cw 1).trans h.c1), (e2 2 (by decide)).trans ((cw 2).trans h.c2), e1, (e2 4 (by decide)).trans ((cw 4).trans h.c4), fun j => by rw [World.frozen?_setCell, hf.frozen (p := ⟨c.wb, j, none⟩) h.wl ne.2.1]; exact h.fz j, Nat.lt_of_lt_of_le h.wl hF.size,
      ⟨A, a1.fr hF (no _ q1), a2⟩, ⟨_, b4.fr hf2 (fun e => ne.2.1 e.symm), hvm, hn⟩, (hF.cell (p := ⟨c.kb, 0, none⟩) fl.2.2.1 (no _ q2)).trans h.kc, (hF.cell (p := ⟨c.jb, 0, none⟩) fl.2.2.2.1 (no _ q3)).trans h.jc, ⟨C, d1.fr hF (by rintro (e | e); exact ne.2.2.2.2.2 e.symm; exact ne.2.2.1 e.symm), d2⟩,
      fun j => by rw [World.frozen?_setCell, hf.frozen (p := ⟨c.pb, j, none⟩) h.pl ne.2.2.2.1]; exact h.pz j, Nat.lt_of_lt_of_le h.pl hF.size, (hF.cell (p := ⟨c.pb, 0, none⟩) h.pl (by rintro (e | e); exact ne.2.2.2.1 e; exact ne.1 e.symm)).trans h.p0,
      ⟨sl, sw, (e2 5 (by decide)).trans ((cw 5).trans r1), owns_fr r2 hF (fun k hk => by rintro (e | e); exact (r5 k hk).2.2.2.2.1 e; exact (r5 k hk).2.1 e), (hF.cell (p := ⟨c.pb, 1, none⟩) h.pl (by rintro (e | e); exact ne.2.2.2.1 e; exact ne.1 e.symm)).trans r3, owns_fr r4 hF (fun k hk => by rintro (e | e); exact (r6 k hk).2.2.2.1 e; exact (r6 k hk).2.1 e), r5, r6⟩,
      Nat.le_trans h.bl hF.size, h.tt, fun k hk => Nat.lt_of_lt_of_le (h.tl k hk) hF.size, h.ne⟩
  refine ⟨w1, run, (cw 3).trans h.c3, (hf.frozen (p := ⟨c.wb, 3, none⟩) h.wl ne.2.1).trans (h.fz 3), Nat.lt_of_lt_of_le h.wl hf.size, k0, ?_⟩
  exact ((hf.mono (fun k _ e => by subst e; exact tv)).setCell (p := ⟨c.wb, 3, none⟩) (.inl tw) _)
theorem flat_set (pre rest : List In) (x : In) (n : Int) : ((pre ++ x :: rest).flatMap encI).set (pre.length * 3 + 1) (.int .i64 n) = (pre ++ ⟨x.op, n, x.b⟩ :: rest).flatMap encI := by
  have hl : (pre.flatMap encI).length = pre.length * 3 := flat_length encI 3 encI_len pre
  rw [List.flatMap_append, List.flatMap_append, List.set_append_right _ _ (by omega)]
  congr 1
  rw [hl, show pre.length * 3 + 1 - pre.length * 3 = 1 by omega]
  simp [List.flatMap_cons, encI]
/-- An instruction that waited is filled in. -/
theorem KI.patch {c : Wk} {G : Bs → Int} {T : Nat → Prop} {s : Ks} {w : World} (h : KI c G T s w) {pre rest : List In} {x : In} (hs : s.ins = pre ++ x :: rest) {g cap : Nat} (h5 : w.cell? ⟨c.wb, 5, none⟩ = some (.slice (some ⟨g, 0, none⟩) s.ins.length cap)) (n : Int) :
    KP c G T w { s with ins := pre ++ ⟨x.op, n, x.b⟩ :: rest } (w.setCell ⟨g, pre.length * 3 + 1, none⟩ (.int .i64 n)) := by
  obtain ⟨tw, tv, tn, tp, q1, q2, q3⟩ := h.tt
  obtain ⟨A, a1, a2⟩ := h.fm
  obtain ⟨B, b1, b2⟩ := h.vm
  obtain ⟨C, d1, d2⟩ := h.nm
  obtain ⟨sl, sw, r1, r2, r3, r4, r5, r6⟩ := h.rows
  have esl : sl.v = .slice (some ⟨g, 0, none⟩) s.ins.length cap := by rw [r1] at h5; exact Option.some.inj h5
  rw [esl] at r2 r5
  have hg := r5 g rfl
  have fl := h.fl
  have ne := h.ne
  have hf : Fr (fun k => k = g) w (w.setCell ⟨g, pre.length * 3 + 1, none⟩ (.int .i64 n)) := (Fr.refl (fun k => k = g) w).setCell (p := ⟨g, pre.length * 3 + 1, none⟩) (.inl rfl) _
  have no : ∀ k, ¬ T k → ¬ k = g := fun k hk e => hk (e ▸ hg.1)
  have cw : ∀ j, (w.setCell ⟨g, pre.length * 3 + 1, none⟩ (.int .i64 n)).cell? ⟨c.wb, j, none⟩ = w.cell? ⟨c.wb, j, none⟩ := fun j => hf.cell (p := ⟨c.wb, j, none⟩) h.wl (fun e => hg.2.1 e.symm)
  have own2 := (r2.stored (pre.length * 3 + 1) (.int .i64 n)).1
  have hlen : (pre ++ (⟨x.op, n, x.b⟩ : In) :: rest).length = s.ins.length := by rw [hs]; simp
  rw [hs, flat_set, ← hs] at own2
  refine ⟨T, ⟨(cw 0).trans h.c0, (cw 1).trans h.c1, (cw 2).trans h.c2, (cw 3).trans h.c3, (cw 4).trans h.c4, fun j => by rw [World.frozen?_setCell]; exact h.fz j, Nat.lt_of_lt_of_le h.wl hf.size,
    ⟨A, a1.fr hf (no _ q1), a2⟩, ⟨B, b1.fr hf (fun e => hg.2.2.2.2.1 e.symm), b2⟩, (hf.cell (p := ⟨c.kb, 0, none⟩) fl.2.2.1 (no _ q2)).trans h.kc, (hf.cell (p := ⟨c.jb, 0, none⟩) fl.2.2.2.1 (no _ q3)).trans h.jc, ⟨C, d1.fr hf (fun e => hg.2.2.2.2.2 e.symm), d2⟩,
    fun j => by rw [World.frozen?_setCell]; exact h.pz j, Nat.lt_of_lt_of_le h.pl hf.size, (hf.cell (p := ⟨c.pb, 0, none⟩) h.pl (fun e => hg.2.2.1 e.symm)).trans h.p0,
    ⟨⟨some ⟨g, 0, none⟩, s.ins.length, cap⟩, sw, (cw 5).trans h5, by rw [hlen]; exact own2, (hf.cell (p := ⟨c.pb, 1, none⟩) h.pl (fun e => hg.2.2.1 e.symm)).trans r3, owns_fr r4 hf (fun k hk e => hg.2.2.2.1 (e ▸ hk)), r5, r6⟩,
    Nat.le_trans h.bl hf.size, h.tt, fun k hk => Nat.lt_of_lt_of_le (h.tl k hk) hf.size, h.ne⟩, hf.mono (fun k _ e => by subst e; exact hg.1), fun k hk => .inl hk⟩
end Go.Proofs.YtkmdamljhagogaaDoor
end
section
/- Package code: put, let, ahead and what fills in. -/
set_option maxHeartbeats 0
set_option maxRecDepth 100000
namespace Go.Proofs.YtkmdamljhagogaaDoor
open Go Go.RowKit
theorem sizeIn : (Tryd.prog.info? 45).map (fun i => (i.zero, i.size, i.bytes)) = some (some (.agg #[.int .i64 0, .int .i64 0, .int .i64 0]), 3, 24) := by kernel_rfl
theorem KI.row {c : Wk} {G : Bs → Int} {T : Nat → Prop} {s : Ks} {w : World} (h : KI c G T s w) : ∃ (sa : Option Addr) (sc : Nat), w.cell? ⟨c.wb, 5, none⟩ = some (.slice sa s.ins.length sc) ∧ w.ownsRow c.base 45 3 (.slice sa s.ins.length sc) s.ins.length (s.ins.flatMap encI) ∧ ∀ b, (Value.slice sa s.ins.length sc).ownBlock = some b → b ≠ c.wb := by
  obtain ⟨⟨a, n, cc⟩, sw, r1, r2, r3, r4, r5, r6⟩ := h.rows
  have hn : n = s.ins.length := by
    rcases r2.2 with ⟨e, e2⟩ | ⟨g, cap, cur, e, _⟩
    · simp only [Slc.v, Value.slice.injEq] at e; omega
    · simp only [Slc.v, Value.slice.injEq] at e; exact e.2.1
  subst hn
  exact ⟨a, cc, r1, r2, fun b hb => (r5 b hb).2.1⟩
theorem KP.drew {c : Wk} {G : Bs → Int} {T : Nat → Prop} {s : Ks} {w w' : World} (h : KP c G T w s w') : KP c G T w s w'.drew := by
  obtain ⟨T', k1, k2, k3⟩ := h
  exact ⟨T', k1.new (Fr.refl nothing w').drew, k2.drew, k3⟩
theorem put_any (c : Wk) (G : Bs → Int) (T : Nat → Prop) (s : Ks) (w : World) (h : KI c G T s w) (op a : Int) (hl : s.ins.length ≤ 200000) :
    Calls Tryd.prog 44 #[.pointer (some ⟨c.wb, 0, none⟩), .int .i64 op, .int .i64 a] w fun e w' => e = .returned (.tuple #[]) ∧ KP c G T w { s with ins := s.ins ++ [⟨op, a, 0⟩] } w' := by
  obtain ⟨sa, sc, h5, own, hbw⟩ := h.row
  have hwl := h.wl
  have hz := h.fz 5
  have hbl := h.bl
  have HK := hide h
  have HO := hide own
  have HBW := hide hbw
  obtain ⟨j0, hj0, hy0, hy1, hy2⟩ := info_parts sizeIn
  clear h own hbw
  go_enter Tryd.func44, Tryd.ntmps44
  go_wp2_with (at_builtin; go_must (refine wpList_append_lies _ rfl _ _ 38 rfl c.base 45 j0 _ 3 24 Tryd.underlying38 hj0 hy0 hy1 hy2 rfl (by decide) (.slice sa s.ins.length sc) s.ins.length _ rfl (HO.out.alloc _) ⟨w.heap.size, 0, none⟩ 1 1 [.int .i64 op, .int .i64 a, .int .i64 0] rfl rfl (World.news_of_block (cs := #[.int .i64 op, .int .i64 a, .int .i64 0]) (t := 45) (fr := (0, 0)) (heap_new _ _)) (by simp [Value.oneCell']) (by decide) (by unfold maxLen; omega) (by omega) (by simp; omega) _ rfl ?_); intro g cp w8 hr8 hg8 hat8 hlt8; have F8 : Fr (fun k => (Value.slice sa s.ins.length sc).ownBlock = some k) w w8 := ((Fr.refl (fun k => (Value.slice sa s.ins.length sc).ownBlock = some k) w).alloc _).grown hg8 (fun k hk => .inl hk); have z5 := (F8.cell (p := ⟨c.wb, 5, none⟩) hwl (fun e => HBW.out _ e rfl)).trans h5; have zf := (F8.frozen (p := ⟨c.wb, 5, none⟩) hwl (fun e => HBW.out _ e rfl)).trans hz; have zl := Nat.lt_of_lt_of_le hwl F8.size; have HR8 := hide hr8; have HF8 := hide F8; have HAT := hide hat8; clear hr8 hg8 F8 hat8)
  go_end0
  refine ⟨rfl, ?_⟩
  exact HK.out.push (sl := ⟨sa, s.ins.length, sc⟩) h5 HR8.out HF8.out (HAT.out.imp id (fun e => by rw [e]; simp))
theorem wlet_any (c : Wk) (G : Bs → Int) (T : Nat → Prop) (s : Ks) (w : World) (h : KI c G T s w) (t : Bs) (ht : t.length ≤ 1500) (hv : s.v ≤ 100000) :
    Calls Tryd.prog 42 #[.pointer (some ⟨c.wb, 0, none⟩), .string (bs t)] w fun e w' => e = .returned (.int .i64 (s.v : Nat)) ∧ KP c G T w { s with v := s.v + 1, E := upd s.E t s.v, nm := s.nm ++ [t] } w' := by
  obtain ⟨w1, run, z3, zf, zl, hK, hF⟩ := h.let_ t (by omega) hv
  have c2 := h.c2
  have c3 := h.c3
  have hwl := h.wl
  have HK := hide hK
  have HF := hide hF
  clear h hK hF
  have b0 : (0 : Int) ≤ (s.v : Nat) := by omega
  have b1 : ((s.v : Nat) : Int) ≤ 100000 := by omega
  go_enter Tryd.func42, Tryd.ntmps42
  go_wp2
  go_ret
  exact ⟨rfl, T, HK.out, HF.out, fun k hk => .inl hk⟩
/-- What ahead answers: it fills in, where instruction n waits. -/
abbrev cloA (ab bb : Nat) : Value := .func (.func 67) #[] #[.pointer (some ⟨ab, 0, none⟩), .pointer (some ⟨bb, 0, none⟩)]
theorem ahead_any (c : Wk) (G : Bs → Int) (T : Nat → Prop) (s : Ks) (w : World) (h : KI c G T s w) (op : Int) (hl : s.ins.length ≤ 200000) :
    Calls Tryd.prog 61 #[.pointer (some ⟨c.wb, 0, none⟩), .int .i64 op] w fun e w' => ∃ ab bb T', e = .returned (cloA ab bb) ∧ KI c G T' { s with ins := s.ins ++ [⟨op, 0, 0⟩] } w' ∧ Fr T w w' ∧ (∀ k, T' k → T k ∨ w.heap.size ≤ k) ∧ ¬ T' ab ∧ ¬ T' bb ∧ w'.cell? ⟨ab, 0, none⟩ = some (.pointer (some ⟨c.wb, 0, none⟩)) ∧ w'.cell? ⟨bb, 0, none⟩ = some (.int .i64 (s.ins.length : Nat)) := by
  obtain ⟨sa, sc, h5, own, hbw⟩ := h.row
  have hwl := h.wl
  have HK := hide h
  have HPUT := hide (fun w' (hf : Fr nothing w w') => put_any c G T s w' (h.new hf) op 0 hl)
  clear h own hbw
  go_enter Tryd.func61, Tryd.ntmps61
  go_wp2_with (go_at_call 44; refine (HPUT.out _ (((Fr.refl nothing w).alloc _).alloc _)).mono ?_; rintro e w2 ⟨rfl, hk2⟩; have HK2 := hide hk2; clear hk2)
  go_ret
  obtain ⟨T', k1, k2, k3⟩ := HK2.out
  have hA := made_cells (Fr.refl nothing (w.alloc (.cells #[.pointer (some ⟨c.wb, 0, none⟩)] 72))) id
  have hB := made_cells (Fr.refl nothing ((w.alloc (.cells #[.pointer (some ⟨c.wb, 0, none⟩)] 72)).alloc (.cells #[.int .i64 (s.ins.length : Nat)] 3))) id
  have s1 : (w.alloc (.cells #[.pointer (some ⟨c.wb, 0, none⟩)] 72)).heap.size = w.heap.size + 1 := by simp
  have s2 : ((w.alloc (.cells #[.pointer (some ⟨c.wb, 0, none⟩)] 72)).alloc (.cells #[.int .i64 (s.ins.length : Nat)] 3)).heap.size = w.heap.size + 1 + 1 := by simp
  rw [s1] at hB
  rw [s2] at k3
  have nA : ¬ T w.heap.size := fun e => by have := HK.out.tl _ e; omega
  have nB : ¬ T (w.heap.size + 1) := fun e => by have := HK.out.tl _ e; omega
  have hA2 := (((Fr.refl nothing (w.alloc (.cells #[.pointer (some ⟨c.wb, 0, none⟩)] 72))).alloc (.cells #[.int .i64 (s.ins.length : Nat)] 3)).cell (p := ⟨w.heap.size, 0, none⟩) hA.2.2 id).trans (hA.1 0)
  exact ⟨_, _, T', rfl, k1, ((((Fr.refl nothing w).alloc _).alloc _).mono (fun _ _ e => e.elim)).trans k2, fun k hk => (k3 k hk).imp id (fun h => by omega), fun e => (k3 _ e).elim nA (fun h => by omega), fun e => (k3 _ e).elim nB (fun h => by omega),
    (k2.cell (p := ⟨w.heap.size, 0, none⟩) (by simp; omega) nA).trans hA2, (k2.cell (p := ⟨w.heap.size + 1, 0, none⟩) (by simp) nB).trans (hB.1 0)⟩
theorem aheadC_any (c : Wk) (G : Bs → Int) (T : Nat → Prop) (s : Ks) (w : World) (h : KI c G T s w) (ab bb : Nat) (ha : w.cell? ⟨ab, 0, none⟩ = some (.pointer (some ⟨c.wb, 0, none⟩))) (pre rest : List In) (x : In) (hb : w.cell? ⟨bb, 0, none⟩ = some (.int .i64 (pre.length : Nat))) (hs : s.ins = pre ++ x :: rest) :
    Calls Tryd.prog 67 #[.pointer (some ⟨ab, 0, none⟩), .pointer (some ⟨bb, 0, none⟩)] w fun e w' => e = .returned (.tuple #[]) ∧ KP c G T w { s with ins := pre ++ ⟨x.op, (s.ins.length : Nat), x.b⟩ :: rest } w' := by
  obtain ⟨sa, sc, h5, own, hbw⟩ := h.row
  have hpl : pre.length < s.ins.length := by rw [hs]; simp
  obtain ⟨g, cap, rfl, hfz, hcl, hgl⟩ : ∃ g cap, sa = some ⟨g, 0, none⟩ ∧ (∀ j, w.frozen? ⟨g, j, none⟩ = false) ∧ w.cell? ⟨g, pre.length * 3 + 1, none⟩ = some (.int .i64 x.a) ∧ g < w.heap.size ∧ cap = sc := by
    rcases own.2 with ⟨e, e2⟩ | ⟨g, cap, cur, e, _⟩
    · omega
    · simp only [Value.slice.injEq] at e
      obtain ⟨rfl, _, rfl⟩ := e
      refine ⟨g, sc, rfl, fun j => own.frozenAt j, ?_, (own.lt g rfl).2, rfl⟩
      have hfl : (pre.flatMap encI).length = pre.length * 3 := flat_length encI 3 encI_len pre
      rw [own.cellAt _ (by omega), hs, List.flatMap_append, List.getElem?_append_right (by omega), hfl, show pre.length * 3 + 1 - pre.length * 3 = 1 by omega]
      simp [encI]
  have hz := hfz (pre.length * 3 + 1)
  have hwl := h.wl
  have la := lt_of_cell ha
  have lb := lt_of_cell hb
  have HP := hide (h.patch hs h5 (s.ins.length : Nat))
  have i1 : (0 : Int) ≤ (pre.length : Nat) := by omega
  have i2 : ((pre.length : Nat) : Int) < (s.ins.length : Nat) := by omega
  simp only at la lb
  clear h own hbw hs hfz
  go_enter Tryd.func67, Tryd.ntmps67
  go_region
  go_end0
  exact ⟨rfl, HP.out.drew⟩
theorem plain_any (k : Int) (w : World) : Calls Tryd.prog 82 #[.int .i64 k] w fun e w' => e = .returned (.int .i64 (plainOp k)) ∧ w' = w := by
  by_cases h5 : k = 5
  · subst h5
    go_enter Tryd.func82, Tryd.ntmps82
    go_wp2
    all_goals go_ret
    all_goals exact ⟨rfl, rfl⟩
  by_cases h6 : k = 6
  · subst h6
    go_enter Tryd.func82, Tryd.ntmps82
    go_wp2
    all_goals go_ret
    all_goals exact ⟨rfl, rfl⟩
  by_cases h7 : k = 7
  · subst h7
    go_enter Tryd.func82, Tryd.ntmps82
    go_wp2
    all_goals go_ret
    all_goals exact ⟨rfl, rfl⟩
  by_cases h8 : k = 8
  · subst h8
    go_enter Tryd.func82, Tryd.ntmps82
    go_wp2
    all_goals go_ret
    all_goals exact ⟨rfl, rfl⟩
  by_cases h10 : k = 10
  · subst h10
    go_enter Tryd.func82, Tryd.ntmps82
    go_wp2
    all_goals go_ret
    all_goals exact ⟨rfl, rfl⟩
  have e : plainOp k = 0 := by unfold plainOp; rw [if_neg h5, if_neg h6, if_neg h7, if_neg h8, if_neg h10]
  rw [e]
  clear e
  have p5 : (k == 5) = false := by simpa using h5
  have p6 : (k == 6) = false := by simpa using h6
  have p7 : (k == 7) = false := by simpa using h7
  have p8 : (k == 8) = false := by simpa using h8
  have p10 : (k == 10) = false := by simpa using h10
  go_enter Tryd.func82, Tryd.ntmps82
  go_wp2
  go_ret
  exact ⟨rfl, rfl⟩
end Go.Proofs.YtkmdamljhagogaaDoor
end
section
/- Package code: the closure that numbers texts. -/
set_option maxHeartbeats 0
set_option maxRecDepth 100000
namespace Go.Proofs.YtkmdamljhagogaaDoor
open Go Go.RowKit
theorem wput_in {ws : List Bs} {t : Bs} (h : ws.contains t = true) : wput ws t = ws := by unfold wput; rw [if_pos h]
theorem wput_new {ws : List Bs} {t : Bs} (h : ws.contains t = false) : wput ws t = ws ++ [t] ∧ wnum ws t = ws.length := by
  refine ⟨by unfold wput; rw [if_neg (by rw [h]; decide)], ?_⟩
  unfold wnum
  have : t ∉ ws := by simpa using h
  exact List.idxOf_eq_length this
theorem wnum_app {ws : List Bs} {t x : Bs} (h : ws.contains t = false) : (if (ws ++ [t]).contains x then some ((wnum (ws ++ [t]) x : Nat) : Int) else none) = if x = t then some ((ws.length : Nat) : Int) else if ws.contains x then some ((wnum ws x : Nat) : Int) else none := by
  have ht : t ∉ ws := by simpa using h
  unfold wnum
  by_cases hx : x = t
  · subst hx
    rw [if_pos (by simp), if_pos rfl, List.idxOf_append, if_neg ht]
    simp
  · rw [if_neg hx]
    by_cases hm : x ∈ ws
    · rw [if_pos (by simp [hm]), if_pos (by simpa using hm), List.idxOf_append, if_pos hm]
    · rw [if_neg (by simp [hm, hx]), if_neg (by simpa using hm)]
/-- A text more: the map (w1), the row (w2), and the program's field. -/
theorem KI.word {c : Wk} {G : Bs → Int} {T : Nat → Prop} {s : Ks} {w w1 w2 : World} (h : KI c G T s w) {t : Bs} (hn : s.ws.contains t = false) {B : AMap} (hb : ∀ t, B.f t = if s.ws.contains t then some ((wnum s.ws t : Nat) : Int) else none) (hbn : B.n ≤ s.ws.length) (hm : SI c.nb (B.put t (s.ws.length : Nat)) w1) (hf : Fr (fun j => j = c.nb) w w1)
    {sw : Slc} (h1 : w.cell? ⟨c.pb, 1, none⟩ = some sw.v) {g cap : Nat} (hr : w2.ownsRow c.base 9 1 (.slice (some ⟨g, 0, none⟩) (s.ws.length + 1) cap) (s.ws.length + 1) (s.ws.flatMap encN ++ encN t)) (hf2 : Fr (fun k => sw.v.ownBlock = some k) w1 w2) (hg : sw.v.ownBlock = some g ∨ w1.heap.size ≤ g) :
    KP c G T w { s with ws := s.ws ++ [t] } (w2.setCell ⟨c.pb, 1, none⟩ (.slice (some ⟨g, 0, none⟩) (s.ws.length + 1) cap)) := by
  obtain ⟨tw, tv, tn, tp, q1, q2, q3⟩ := h.tt
  obtain ⟨A, a1, a2⟩ := h.fm
  obtain ⟨V, v1, v2⟩ := h.vm
  obtain ⟨sl, sw', r1, r2, r3, r4, r5, r6⟩ := h.rows
  have esw : sw'.v = sw.v := by rw [r3] at h1; exact Option.some.inj h1
  rw [esw] at r4 r5 r6
  have fl := h.fl
  have ne := h.ne
  have gl1 : sw.v.ownBlock = some g ∨ w.heap.size ≤ g := hg.imp id (fun e => Nat.le_trans hf.size e)
  have hgp : g ≠ c.pb := by
    rcases gl1 with e | e
    · exact (r6 g e).2.2.1
    · have := h.pl; omega
  obtain ⟨W', hW'⟩ : ∃ W', W' = w2.setCell ⟨c.pb, 1, none⟩ (.slice (some ⟨g, 0, none⟩) (s.ws.length + 1) cap) := ⟨_, rfl⟩
  have hf3 : Fr (fun k => k = c.pb) w2 W' := by rw [hW']; exact (Fr.refl (fun k => k = c.pb) w2).setCell (p := ⟨c.pb, 1, none⟩) (.inl rfl) _
  have hF12 : Fr (fun k => k = c.nb ∨ sw.v.ownBlock = some k) w w2 := (hf.mono (fun _ _ e => .inl e)).trans (hf2.mono (fun _ _ e => .inr e))
  have hF : Fr (fun k => k = c.nb ∨ sw.v.ownBlock = some k ∨ k = c.pb) w W' := (hF12.mono (fun _ _ e => e.elim .inl (fun e => .inr (.inl e)))).trans (hf3.mono (fun _ _ e => .inr (.inr e)))
  have no : ∀ k, ¬ T k → ¬ (k = c.nb ∨ sw.v.ownBlock = some k ∨ k = c.pb) := by
    rintro k hk (e | e | e)
    · exact hk (e ▸ tn)
    · exact hk (r6 k e).1
    · exact hk (e ▸ tp)
  have nw : ¬ (c.wb = c.nb ∨ sw.v.ownBlock = some c.wb ∨ c.wb = c.pb) := by
    rintro (e | e | e)
    · exact ne.2.2.1 e
    · exact (r6 _ e).2.1 rfl
    · exact ne.1 e
  have cw : ∀ j, W'.cell? ⟨c.wb, j, none⟩ = w.cell? ⟨c.wb, j, none⟩ := fun j => hF.cell (p := ⟨c.wb, j, none⟩) h.wl nw
  have np12 : ¬ (c.pb = c.nb ∨ sw.v.ownBlock = some c.pb) := by
    rintro (e | e)
    · exact ne.2.2.2.2.1 e
    · exact (r6 _ e).2.2.1 rfl
  have e1 : W'.cell? ⟨c.pb, 1, none⟩ = some (.slice (some ⟨g, 0, none⟩) (s.ws.length + 1) cap) := by
    rw [hW']; exact World.cell?_setCell_same w2 ⟨c.pb, 1, none⟩ _ ((hF12.cell (p := ⟨c.pb, 1, none⟩) h.pl np12).trans h1)
  have pz : ∀ j, W'.frozen? ⟨c.pb, j, none⟩ = false := fun j => by
    rw [hW', World.frozen?_setCell, hF12.frozen (p := ⟨c.pb, j, none⟩) h.pl np12]; exact h.pz j
  have hgl : g < w2.heap.size := (hr.lt g rfl).2
  have nbg : ¬ sw.v.ownBlock = some c.nb := fun e => (r6 _ e).2.2.2.2 rfl
  rw [← hW']
  refine ⟨fun k => T k ∨ k = g, ⟨(cw 0).trans h.c0, (cw 1).trans h.c1, (cw 2).trans h.c2, (cw 3).trans h.c3, (cw 4).trans h.c4, fun j => (hF.frozen (p := ⟨c.wb, j, none⟩) h.wl nw).trans (h.fz j), Nat.lt_of_lt_of_le h.wl hF.size,
    ⟨A, a1.fr hF (no _ q1), a2⟩, ⟨V, v1.fr hF ?_, v2⟩, (hF.cell (p := ⟨c.kb, 0, none⟩) fl.2.2.1 (no _ q2)).trans h.kc, (hF.cell (p := ⟨c.jb, 0, none⟩) fl.2.2.2.1 (no _ q3)).trans h.jc,
    ⟨_, (hm.fr hf2 nbg).fr hf3 (fun e => ne.2.2.2.2.1 e.symm), ?_, ?_⟩, pz, Nat.lt_of_lt_of_le h.pl hF.size, by rw [hW', World.cell?_setCell_other w2 ⟨c.pb, 1, none⟩ ⟨c.pb, 0, none⟩ _ (by simp), hF12.cell (p := ⟨c.pb, 0, none⟩) h.pl np12]; exact h.p0,
    ⟨sl, ⟨some ⟨g, 0, none⟩, s.ws.length + 1, cap⟩, (cw 5).trans r1, owns_fr r2 hF ?_, e1, ?_, ?_, ?_⟩,
    Nat.le_trans h.bl hF.size, ⟨.inl tw, .inl tv, .inl tn, .inl tp, ?_, ?_, ?_⟩, ?_, h.ne⟩, ?_, ?_⟩
  · rintro (e | e | e)
    · exact ne.2.2.2.2.2 e
    · exact (r6 _ e).2.2.2.1 rfl
    · exact ne.2.2.2.1 e.symm
  · intro x
    simp only
    rw [wnum_app hn]
    unfold AMap.put
    dsimp only
    by_cases e : x = t
    · rw [if_pos e, if_pos e]
    · rw [if_neg e, if_neg e, hb x]
  · unfold AMap.put
    dsimp only
    have e : B.f t = none := by rw [hb t, hn]; simp
    rw [e]
    simp
    exact hbn
  · intro k hk
    rintro (e | e | e)
    · exact (r5 k hk).2.2.2.2.2 e
    · exact (r5 k hk).2.2.2.1 e
    · exact (r5 k hk).2.2.1 e
  · have := owns_fr hr hf3 (fun k hk e => by cases hk; exact hgp e)
    simpa using this
  · intro b hb'
    obtain ⟨u1, u2, u3, u4, u5, u6⟩ := r5 b hb'
    refine ⟨.inl u1, u2, u3, ?_, u5, u6⟩
    intro e
    obtain rfl : g = b := Option.some.inj e
    rcases gl1 with e2 | e2
    · exact u4 e2
    · have := h.tl _ u1; omega
  · intro b hb'
    obtain rfl : g = b := Option.some.inj hb'
    refine ⟨.inr rfl, ?_, hgp, ?_, ?_⟩
    · rcases gl1 with e | e
      · exact (r6 g e).2.1
      · have := h.wl; omega
    · rcases gl1 with e | e
      · exact (r6 g e).2.2.2.1
      · have := fl.2.1; omega
    · rcases gl1 with e | e
      · exact (r6 g e).2.2.2.2
      · have := fl.2.2.2.2; omega
  · rintro (e | e)
    · exact q1 e
    · rcases gl1 with e2 | e2
      · exact q1 (e ▸ (r6 g e2).1)
      · have := fl.1; omega
  · rintro (e | e)
    · exact q2 e
    · rcases gl1 with e2 | e2
      · exact q2 (e ▸ (r6 g e2).1)
      · have := fl.2.2.1; omega
  · rintro (e | e)
    · exact q3 e
    · rcases gl1 with e2 | e2
      · exact q3 (e ▸ (r6 g e2).1)
      · have := fl.2.2.2.1; omega
  · rintro k (e | e)
    · exact Nat.lt_of_lt_of_le (h.tl k e) hF.size
    · subst e; exact Nat.lt_of_lt_of_le hgl hf3.size
  · exact hF.mono (fun k _ e => by rcases e with e | e | e; exact e ▸ tn; exact (r6 k e).1; exact e ▸ tp)
  · rintro k (e | e)
    · exact .inl e
    · subst e
      rcases gl1 with e2 | e2
      · exact .inl (r6 k e2).1
      · exact .inr e2
theorem sizeStr : (Tryd.prog.info? 9).map (fun i => (i.zero, i.size, i.bytes)) = some (some (.string ⟨#[]⟩), 1, 16) := by kernel_rfl
theorem number_any (c : Wk) (G : Bs → Int) (T : Nat → Prop) (s : Ks) (w : World) (h : KI c G T s w) (t : Bs) (ht : t.length ≤ 1500) (hl : s.ws.length ≤ 100000) :
    Calls Tryd.prog 41 #[.string (bs t), .pointer (some ⟨c.kb, 0, none⟩), .pointer (some ⟨c.jb, 0, none⟩)] w fun e w' => e = .returned (.int .i64 (wnum s.ws t : Nat)) ∧ KP c G T w { s with ws := wput s.ws t } w' := by
  obtain ⟨B, b1, b2, b3⟩ := h.nm
  have hlk := b1.look2 t (by omega)
  rw [b2 t] at hlk
  have kc := h.kc
  have kl := lt_of_cell kc
  simp only at kl
  cases hc : s.ws.contains t with
  | true =>
    rw [hc] at hlk
    simp only [if_true, Option.getD_some, Option.isSome_some] at hlk
    rw [wput_in hc]
    have HK := hide h
    clear h b1 b2 b3 hc
    go_enter Tryd.func41, Tryd.ntmps41
    go_wp2
    go_ret
    exact ⟨rfl, T, HK.out, Fr.refl _ _, fun k hk => .inl hk⟩
  | false =>
    rw [hc] at hlk
    simp only [Bool.false_eq_true, if_false, Option.getD_none, Option.isSome_none] at hlk
    obtain ⟨e1, e2⟩ := wput_new hc
    rw [e1, e2]
    obtain ⟨w1, ru, hm, hf⟩ := b1.store t (by omega) (s.ws.length : Nat) (by omega) (by omega) (by omega)
    obtain ⟨sl, sw, r1, r2, r3, r4, r5, r6⟩ := h.rows
    obtain ⟨wa, wn, wc⟩ := sw
    have hwn : wn = s.ws.length := by
      rcases r4.2 with ⟨e, e2⟩ | ⟨g, cap, cur, e, _⟩
      · simp only [Slc.v, Value.slice.injEq] at e; omega
      · simp only [Slc.v, Value.slice.injEq] at e; exact e.2.1
    subst hwn
    have jc := h.jc
    have jl := lt_of_cell jc
    have pl := h.pl
    have ne := h.ne
    have fl := h.fl
    obtain ⟨tw, tv, tn, tp, q1, q2, q3⟩ := h.tt
    simp only at jl
    have nk : ¬ c.kb = c.nb := fun e => q2 (e ▸ tn)
    have nj : ¬ c.jb = c.nb := fun e => q3 (e ▸ tn)
    have pz1 := (hf.frozen (p := ⟨c.pb, 1, none⟩) pl ne.2.2.2.2.1).trans (h.pz 1)
    have jc1 := (hf.cell (p := ⟨c.jb, 0, none⟩) jl nj).trans jc
    have p1 := (hf.cell (p := ⟨c.pb, 1, none⟩) pl ne.2.2.2.2.1).trans r3
    have jl1 := Nat.lt_of_lt_of_le jl hf.size
    have pl1 := Nat.lt_of_lt_of_le pl hf.size
    have hbl := Nat.le_trans h.bl hf.size
    have HO := hide (owns_fr r4 hf (fun k hk => (r6 k hk).2.2.2.2))
    have HPB := hide (fun b (hb : (Value.slice wa s.ws.length wc).ownBlock = some b) => (show b ≠ c.pb ∧ b ≠ c.jb from ⟨(r6 b hb).2.2.1, fun e => q3 (e ▸ (r6 b hb).1)⟩))
    have HEND := hide (fun w2 g cap (hr : w2.ownsRow c.base 9 1 (.slice (some ⟨g, 0, none⟩) (s.ws.length + 1) cap) (s.ws.length + 1) (s.ws.flatMap encN ++ encN t)) hf2 hg => h.word hc b2 b3 hm hf (sw := ⟨wa, s.ws.length, wc⟩) r3 (w2 := w2) (g := g) (cap := cap) hr hf2 hg)
    obtain ⟨j0, hj0, hy0, hy1, hy2⟩ := info_parts sizeStr
    clear h b1 b2 b3 hc hm r1 r2 r4 r5 r6 ne fl tw tv tn tp q1 q2 q3 e1 e2 hf
    go_enter Tryd.func41, Tryd.ntmps41
    go_wp2_with fail
    refine wp_region_T (S := fun w' => w'.cell? ⟨c.jb, 0, none⟩ = some (.pointer (some ⟨c.pb, 1, none⟩)) ∧ w'.cell? ⟨c.pb, 1, none⟩ = some (.slice wa s.ws.length wc)) (by kernel_rfl) [8] ?_ (fun hHeld => ?_)
    · exact ⟨jc1, p1⟩
    refine wpAnyT_take (i := 0) (oi := { dst := some 22, op := Op.load 71 (Operand.tmp 2), type := 71, pos := "code.go:34", after := #[], guard := none }) (v := ?v1) rfl (by kernel_rfl) (by kernel_rfl) (by kernel_rfl) (by kernel_rfl) (by kernel_rfl) (fun _ _ _ h => h) (Or.inl ⟨by rfl, ?hy1⟩) (by assumption) ?rest1
    case hy1 => (intro w hSw; (try dsimp only at hSw); obtain ⟨hS1, hS2⟩ := hSw; go_simp; try with_reducible rfl)
    try simp only [Act.put, List.setIfInBounds_toArray, List.set_cons_zero, List.set_cons_succ]
    refine wpAnyT_take (i := 1) (oi := { dst := some 23, op := Op.load 71 (Operand.tmp 2), type := 71, pos := "code.go:34", after := #[], guard := none }) (v := ?v2) rfl (by kernel_rfl) (by kernel_rfl) (by kernel_rfl) (by kernel_rfl) (by kernel_rfl) (fun _ _ _ h => h) (Or.inl ⟨by rfl, ?hy2⟩) (by assumption) ?rest2
    case hy2 => (intro w hSw; (try dsimp only at hSw); obtain ⟨hS1, hS2⟩ := hSw; go_simp; try with_reducible rfl)
    try simp only [Act.put, List.setIfInBounds_toArray, List.set_cons_zero, List.set_cons_succ]
    refine wpAnyT_take (i := 2) (oi := { dst := some 24, op := Op.nilCheck (Operand.tmp 23), type := 0, pos := "code.go:34", after := #[{ on := 1, ground := Ground.data }], guard := none }) (v := ?v3) rfl (by kernel_rfl) (by kernel_rfl) (by kernel_rfl) (by kernel_rfl) (by kernel_rfl) (fun _ _ _ h => h) (Or.inl ⟨by rfl, ?hy3⟩) (by assumption) ?rest3
    case hy3 => (intro w hSw; (try dsimp only at hSw); obtain ⟨hS1, hS2⟩ := hSw; go_simp; try with_reducible rfl)
    try simp only [Act.put, List.setIfInBounds_toArray, List.set_cons_zero, List.set_cons_succ]
    refine wpAnyT_take (i := 3) (oi := { dst := some 25, op := Op.load 32 (Operand.tmp 24), type := 32, pos := "code.go:34", after := #[{ on := 2, ground := Ground.data }], guard := none }) (v := ?v4) rfl (by kernel_rfl) (by kernel_rfl) (by kernel_rfl) (by kernel_rfl) (by kernel_rfl) (fun _ _ _ h => h) (Or.inl ⟨by rfl, ?hy4⟩) (by assumption) ?rest4
    case hy4 => (intro w hSw; (try dsimp only at hSw); obtain ⟨hS1, hS2⟩ := hSw; go_simp; try with_reducible rfl)
    try simp only [Act.put, List.setIfInBounds_toArray, List.set_cons_zero, List.set_cons_succ]
    refine wpAnyT_take (i := 4) (oi := { dst := some 26, op := Op.move (Operand.tmp 0), type := 9, pos := "code.go:34", after := #[], guard := none }) (v := ?v5) rfl (by kernel_rfl) (by kernel_rfl) (by kernel_rfl) (by kernel_rfl) (by kernel_rfl) (fun _ _ _ h => h) (Or.inl ⟨by rfl, ?hy5⟩) (by assumption) ?rest5
    case hy5 => (intro w hSw; (try dsimp only at hSw); obtain ⟨hS1, hS2⟩ := hSw; go_simp; try with_reducible rfl)
    try simp only [Act.put, List.setIfInBounds_toArray, List.set_cons_zero, List.set_cons_succ]
    have FA : Fr nothing w1 (w1.alloc (.cells #[.string (bs t)] 9)).drew := ((Fr.refl nothing w1).alloc _).drew
    have sA : (w1.alloc (.cells #[.string (bs t)] 9)).drew.heap.size = w1.heap.size + 1 := by show (w1.alloc (.cells #[.string (bs t)] 9)).heap.size = _; simp
    have hHeldA : (w1.alloc (.cells #[.string (bs t)] 9)).drew.cell? ⟨c.jb, 0, none⟩ = some (.pointer (some ⟨c.pb, 1, none⟩)) ∧ (w1.alloc (.cells #[.string (bs t)] 9)).drew.cell? ⟨c.pb, 1, none⟩ = some (.slice wa s.ws.length wc) := ⟨(FA.cell (p := ⟨c.jb, 0, none⟩) jl1 id).trans jc1, (FA.cell (p := ⟨c.pb, 1, none⟩) pl1 id).trans p1⟩
    refine wpAnyT_ready (rs := [5]) (by kernel_rfl) (by simp) ?_
    refine AllReadyT.cons (o := { dst := some 27, op := Op.buildSlice 32 1 #[(0, Operand.tmp 26)], type := 32, pos := "code.go:34", after := #[{ on := 4, ground := Ground.data }], guard := none }) rfl (fun K hK => ?_) AllReadyT.nil
    go_simp
    refine hK.out _ _ hHeldA ?_
    clear hK K hHeld
    try simp only [Act.put, List.setIfInBounds_toArray, List.set_cons_zero, List.set_cons_succ]
    refine wpAnyT_ready (rs := [6]) (by kernel_rfl) (by simp) ?_
    refine AllReadyT.cons (o := { dst := some 28, op := Op.call { callee := Callee.builtin Builtin.append, args := #[Operand.tmp 25, Operand.tmp 27], argTypes := #[32, 32] }, type := 32, pos := "code.go:34", after := #[{ on := 3, ground := Ground.data }, { on := 5, ground := Ground.data }], guard := none }) rfl (fun K hK => ?_) AllReadyT.nil
    refine step_append_lies _ (by rfl) (.tmp 25) (.tmp 27) 32 (by rfl) c.base 9 j0 _ 1 16 Tryd.underlying32 hj0 hy0 hy1 hy2 rfl (by decide) (.slice wa s.ws.length wc) s.ws.length _ (by simp [Act.eval]) (owns_fr HO.out FA (fun _ _ => id)) ⟨w1.heap.size, 0, none⟩ 1 1 [.string (bs t)] (by simp [Act.eval]) rfl (World.news_of_block (cs := #[.string (bs t)]) (t := 9) (fr := (0, 0)) (heap_new w1 _)) (by simp [Value.oneCell']) (by decide) (by unfold maxLen; omega) (by omega) (by omega) _ rfl ?_
    intro g cp w8 hr8 hg8 hat8 hlt8
    have F8 : Fr (fun k => (Value.slice wa s.ws.length wc).ownBlock = some k) w1 w8 := (FA.mono (fun _ _ e => e.elim)).grown hg8 (fun k hk => .inl hk)
    have z1 := (F8.cell (p := ⟨c.pb, 1, none⟩) pl1 (fun e => (HPB.out _ e).1 rfl)).trans p1
    have zj := (F8.cell (p := ⟨c.jb, 0, none⟩) jl1 (fun e => (HPB.out _ e).2 rfl)).trans jc1
    have zf := (F8.frozen (p := ⟨c.pb, 1, none⟩) pl1 (fun e => (HPB.out _ e).1 rfl)).trans pz1
    have zl := Nat.lt_of_lt_of_le pl1 F8.size
    have hHeld8 := And.intro zj z1
    have HFIN := hide (HEND.out w8 g cp hr8 F8 (hat8.imp id (fun e => by rw [e, sA]; omega)))
    clear hr8 hg8 F8 hat8
    refine hK.out _ _ hHeld8 ?_
    clear hK K hHeldA
    try simp only [Act.put, List.setIfInBounds_toArray, List.set_cons_zero, List.set_cons_succ]
    refine wpAnyT_take (i := 7) (oi := { dst := some 29, op := Op.nilCheck (Operand.tmp 22), type := 0, pos := "code.go:34", after := #[{ on := 0, ground := Ground.data }, { on := 0, ground := Ground.phase }, { on := 1, ground := Ground.phase }, { on := 2, ground := Ground.phase }, { on := 3, ground := Ground.phase }, { on := 4, ground := Ground.phase }, { on := 5, ground := Ground.phase }, { on := 6, ground := Ground.phase }], guard := none }) (v := ?v6) rfl (by kernel_rfl) (by kernel_rfl) (by kernel_rfl) (by kernel_rfl) (by kernel_rfl) (fun _ _ _ h => h) (Or.inl ⟨by rfl, ?hy6⟩) (by assumption) ?rest6
    case hy6 => (intro w hSw; (try dsimp only at hSw); obtain ⟨hS1, hS2⟩ := hSw; go_simp; try with_reducible rfl)
    try simp only [Act.put, List.setIfInBounds_toArray, List.set_cons_zero, List.set_cons_succ]
    refine wpAnyT_ready (rs := [8]) (by kernel_rfl) (by simp) ?_
    refine AllReadyT.last (o := { dst := none, op := Op.store 32 (Operand.tmp 29) (Operand.tmp 28), type := 0, pos := "code.go:34", after := #[{ on := 7, ground := Ground.data }, { on := 6, ground := Ground.data }, { on := 6, ground := Ground.chain }, { on := 0, ground := Ground.phase }, { on := 1, ground := Ground.phase }, { on := 2, ground := Ground.phase }, { on := 3, ground := Ground.phase }, { on := 4, ground := Ground.phase }, { on := 5, ground := Ground.phase }, { on := 6, ground := Ground.phase }], guard := none }) rfl (by kernel_rfl) (fun K hK => ?_) AllReadyT.nil
    go_simp
    refine hK.out _ _ ?_
    clear hK K
    try simp only [Act.put, List.setIfInBounds_toArray, List.set_cons_zero, List.set_cons_succ]
    refine wpAny_done (by kernel_rfl) ?_ _
    go_wp2_with fail
    go_ret
    exact ⟨rfl, HFIN.out⟩
end Go.Proofs.YtkmdamljhagogaaDoor
end
