/- KMake; RJoin; RRep; VShape. -/
import Derived.Deep.RegionHeld3
import Derived.Test.YtkmdamljhagogaaDoorPartR17
section
/- Package code: Make. -/
set_option maxHeartbeats 0
set_option maxRecDepth 100000
namespace Go.Proofs.YtkmdamljhagogaaDoor
open Go Go.RowKit
structure RawC where
  np : Int
  nv : Int
  s : Slc
def encC (r : RawC) : List Value := [.int .i64 r.np, .int .i64 r.nv, .slice r.s.a r.s.n r.s.c]
theorem encC_len (r : RawC) : (encC r).length = 3 := rfl
structure CdOk (w : World) (P : Nat → Prop) (r : RawC) (x : Cd) : Prop where
  np : r.np = (x.np : Nat)
  nv : r.nv = (x.nv : Nat)
  s : Sl encI 3 w r.s.v x.ins
  p : ∀ b, r.s.v.ownBlock = some b → P b
theorem cd_stays : Stays CdOk := fun _ _ _ _ _ _ _ h hf hs hm => ⟨h.np, h.nv, h.s.keep hf h.p hs, fun b hb => hm _ (h.p b hb)⟩
/-- A program as the machine holds it. -/
def PgOk (w : World) (sc sw : Slc) (P : Pg) : Prop := (∃ rs, Sl encC 3 w sc.v rs ∧ Each (CdOk w (fun k => k < w.heap.size)) rs P.cs) ∧ Sl encN 1 w sw.v P.ws ∧ (∀ b, sc.v.ownBlock = some b → b < w.heap.size) ∧ (∀ b, sw.v.ownBlock = some b → b < w.heap.size)
theorem sl_nil {α : Type} (enc : α → List Value) (sz : Nat) (w : World) : Sl enc sz w (.slice none 0 0) ([] : List α) := ⟨none, 0, rfl, by unfold maxLen; simp, fun i x h => by simp at h⟩
theorem pgOk_nil (w : World) : PgOk w nilS nilS ⟨[], []⟩ := ⟨⟨[], sl_nil _ _ _, rfl, fun i r x h => by simp at h⟩, sl_nil _ _ _, fun b h => (by cases h), fun b h => (by cases h)⟩
def MkP (w : World) (res : Pg × Int) (e : Ending) (w' : World) : Prop := ∃ sc sw : Slc, e = .returned (.tuple #[.agg #[.slice sc.a sc.n sc.c, .slice sw.a sw.n sw.c], .int .i64 res.2]) ∧ Fr nothing w w' ∧ PgOk w' sc sw res.1
theorem numbering_any (pb : Nat) (w : World) : Calls Tryd.prog 29 #[.pointer (some ⟨pb, 1, none⟩)] w fun e w' => e = .returned (.func (.func 41) #[] #[.pointer (some ⟨w.heap.size + 1 + 1, 0, none⟩), .pointer (some ⟨w.heap.size, 0, none⟩)]) ∧ w' = ((w.alloc (.cells #[.pointer (some ⟨pb, 1, none⟩)] 71)).alloc (.map #[] 0)).alloc (.cells #[.map (some (w.heap.size + 1))] 55) := by
  have hmm := @run_makeMap Tryd.prog
  go_enter Tryd.func29, Tryd.ntmps29
  go_wp2
  go_ret
  exact ⟨rfl, rfl⟩
/-- The program's blocks: the functions' map, the closure's two variables, its map, the program itself, and where the rows begin. -/
structure Mk where
  fb : Nat
  kb : Nat
  jb : Nat
  nb : Nat
  pb : Nat
  base : Nat
/-- What Make has gathered. -/
structure MI (m : Mk) (G : Bs → Int) (cs : List Cd) (ws : List Bs) (w : World) : Prop where
  fm : ∃ A, SI m.fb A w ∧ ∀ t, (A.f t).getD 0 = G t
  kc : w.cell? ⟨m.kb, 0, none⟩ = some (.map (some m.nb))
  jc : w.cell? ⟨m.jb, 0, none⟩ = some (.pointer (some ⟨m.pb, 1, none⟩))
  nm : ∃ A, SI m.nb A w ∧ (∀ t, A.f t = if ws.contains t then some ((wnum ws t : Nat) : Int) else none) ∧ A.n ≤ ws.length
  pz : ∀ j, w.frozen? ⟨m.pb, j, none⟩ = false
  pl : m.pb < w.heap.size
  bl : m.base ≤ w.heap.size
  rows : ∃ (sc sw : Slc) (rs : List RawC), w.cell? ⟨m.pb, 0, none⟩ = some sc.v ∧ w.ownsRow m.base 40 3 sc.v cs.length (rs.flatMap encC) ∧ w.cell? ⟨m.pb, 1, none⟩ = some sw.v ∧ w.ownsRow m.base 9 1 sw.v ws.length (ws.flatMap encN) ∧
    Each (CdOk w (fun k => k < w.heap.size ∧ k ≠ m.nb ∧ k ≠ m.pb ∧ sw.v.ownBlock ≠ some k ∧ sc.v.ownBlock ≠ some k ∧ m.base ≤ k)) rs cs ∧
    (∀ b, sc.v.ownBlock = some b → b ≠ m.nb ∧ b ≠ m.pb ∧ sw.v.ownBlock ≠ some b ∧ b ≠ m.fb ∧ b ≠ m.kb ∧ b ≠ m.jb) ∧ (∀ b, sw.v.ownBlock = some b → b ≠ m.nb ∧ b ≠ m.pb ∧ b ≠ m.fb ∧ b ≠ m.kb ∧ b ≠ m.jb)
  ne : m.pb ≠ m.nb ∧ m.pb ≠ m.fb ∧ m.pb ≠ m.kb ∧ m.pb ≠ m.jb ∧ m.nb ≠ m.fb ∧ m.nb ≠ m.kb ∧ m.nb ≠ m.jb
theorem MI.fl {m : Mk} {G : Bs → Int} {cs : List Cd} {ws : List Bs} {w : World} (h : MI m G cs ws w) : m.fb < w.heap.size ∧ m.kb < w.heap.size ∧ m.jb < w.heap.size ∧ m.nb < w.heap.size := by
  obtain ⟨A, a, _⟩ := h.fm
  obtain ⟨C, d, _⟩ := h.nm
  exact ⟨a.lt, lt_of_cell h.kc, lt_of_cell h.jc, d.lt⟩
theorem MI.new {m : Mk} {G : Bs → Int} {cs : List Cd} {ws : List Bs} {w w' : World} (h : MI m G cs ws w) (hf : Fr nothing w w') : MI m G cs ws w' := by
  obtain ⟨A, a1, a2⟩ := h.fm
  obtain ⟨C, d1, d2⟩ := h.nm
  obtain ⟨sc, sw, rs, r1, r2, r3, r4, r5, r6, r7⟩ := h.rows
  have fl := h.fl
  exact ⟨⟨A, a1.fr hf id, a2⟩, (hf.cell (p := ⟨m.kb, 0, none⟩) fl.2.1 id).trans h.kc, (hf.cell (p := ⟨m.jb, 0, none⟩) fl.2.2.1 id).trans h.jc, ⟨C, d1.fr hf id, d2⟩, fun j => (hf.frozen (p := ⟨m.pb, j, none⟩) h.pl id).trans (h.pz j), Nat.lt_of_lt_of_le h.pl hf.size, Nat.le_trans h.bl hf.size,
    ⟨sc, sw, rs, (hf.cell (p := ⟨m.pb, 0, none⟩) h.pl id).trans r1, owns_fr r2 hf (fun _ _ => id), (hf.cell (p := ⟨m.pb, 1, none⟩) h.pl id).trans r3, owns_fr r4 hf (fun _ _ => id), ⟨r5.1, fun i r x h1 h2 => cd_stays _ _ _ _ _ _ _ (r5.2 i r x h1 h2) hf (fun _ _ => id) (fun k hk => ⟨Nat.lt_of_lt_of_le hk.1 hf.size, hk.2⟩)⟩, r6, r7⟩, h.ne⟩
/-- A new writer. -/
theorem MI.writer {m : Mk} {G : Bs → Int} {cs : List Cd} {ws : List Bs} {w : World} (h : MI m G cs ws w) {sc : Slc} (hsc : w.cell? ⟨m.pb, 0, none⟩ = some sc.v) {w2 : World} (hf : Fr nothing w w2) {vb wb : Nat} (hv : w.heap.size ≤ vb) (hw : w.heap.size ≤ wb) (hvw : wb ≠ vb) (hV : SI vb AMap.empty w2) (cells : ∀ j : Nat, w2.cell? ⟨wb, j, none⟩ = (#[Value.map (some m.fb), .func (.func 41) #[] #[.pointer (some ⟨m.kb, 0, none⟩), .pointer (some ⟨m.jb, 0, none⟩)], .map (some vb), .int .i64 0, .int .i64 0, .slice none 0 0])[j]?) (hz : ∀ j, w2.frozen? ⟨wb, j, none⟩ = false) (hwl : wb < w2.heap.size) :
    ∃ T s, KI ⟨wb, m.fb, vb, m.kb, m.jb, m.nb, m.pb, m.base, sc.v⟩ G T s w2 ∧ Fresh s ws ∧ (∀ k, T k → k = m.nb ∨ k = m.pb ∨ (∃ sw : Slc, w.cell? ⟨m.pb, 1, none⟩ = some sw.v ∧ sw.v.ownBlock = some k) ∨ w.heap.size ≤ k) ∧ (∀ sw : Slc, w.cell? ⟨m.pb, 1, none⟩ = some sw.v → ∀ k, sw.v.ownBlock = some k → T k) := by
  have h2 := h.new hf
  obtain ⟨A, a1, a2⟩ := h2.fm
  obtain ⟨C, d1, d2⟩ := h2.nm
  obtain ⟨sc', sw, rs, r1, r2, r3, r4, r5, r6, r7⟩ := h2.rows
  have fl := h.fl
  have hpl := h.pl
  have ne := h.ne
  have q3 : w.cell? ⟨m.pb, 1, none⟩ = some sw.v := (hf.cell (p := ⟨m.pb, 1, none⟩) h.pl id).symm.trans r3
  have hswl : ∀ b, sw.v.ownBlock = some b → b < w.heap.size := by
    obtain ⟨_, sw', _, _, _, u3, u4, _⟩ := h.rows
    have e : sw'.v = sw.v := by rw [q3] at u3; exact (Option.some.inj u3).symm
    rw [e] at u4
    exact fun b hb => (u4.lt b hb).2
  refine ⟨fun k => k = wb ∨ k = vb ∨ k = m.nb ∨ k = m.pb ∨ sw.v.ownBlock = some k, ⟨0, 0, [], fun _ => 0, [], ws⟩, ⟨cells 0, cells 1, cells 2, cells 3, cells 4, hz, hwl, ⟨A, a1, a2⟩, ⟨AMap.empty, hV, fun t ht => (by cases ht), Nat.le_refl _⟩, h2.kc, h2.jc, ⟨C, d1, d2⟩, h2.pz, h2.pl, (hf.cell (p := ⟨m.pb, 0, none⟩) h.pl id).trans hsc,
    ⟨nilS, sw, cells 5, World.ownsRow_nil _ _ _ _, r3, r4, fun b hb => (by cases hb), fun b hb => ⟨.inr (.inr (.inr (.inr hb))), ?_, (r7 b hb).2.1, ?_, (r7 b hb).1⟩⟩, h2.bl, ⟨.inl rfl, .inr (.inl rfl), .inr (.inr (.inl rfl)), .inr (.inr (.inr (.inl rfl))), ?_, ?_, ?_⟩, ?_, ?_⟩, ⟨rfl, rfl, rfl, rfl, rfl, rfl⟩, ?_, ?_⟩
  · have := hswl b hb; show b ≠ wb; omega
  · have := hswl b hb; show b ≠ vb; omega
  · rintro (e | e | e | e | e)
    · show False; have : m.fb = wb := e; omega
    · have : m.fb = vb := e; omega
    · exact ne.2.2.2.2.1 e.symm
    · exact ne.2.1 e.symm
    · exact (r7 _ e).2.2.1 rfl
  · rintro (e | e | e | e | e)
    · have : m.kb = wb := e; omega
    · have : m.kb = vb := e; omega
    · exact ne.2.2.2.2.2.1 e.symm
    · exact ne.2.2.1 e.symm
    · exact (r7 _ e).2.2.2.1 rfl
  · rintro (e | e | e | e | e)
    · have : m.jb = wb := e; omega
    · have : m.jb = vb := e; omega
    · exact ne.2.2.2.2.2.2 e.symm
    · exact ne.2.2.2.1 e.symm
    · exact (r7 _ e).2.2.2.2 rfl
  · have hs := hf.size
    have hvl := hV.lt
    rintro k (e | e | e | e | e)
    · rw [e]; exact hwl
    · rw [e]; exact hvl
    · rw [e]; omega
    · rw [e]; omega
    · have := hswl k e; omega
  · refine ⟨?_, hvw, ?_, ?_, ne.1, ?_⟩
    · show wb ≠ m.pb; omega
    · show wb ≠ m.nb; omega
    · show m.pb ≠ vb; omega
    · show vb ≠ m.nb; omega
  · rintro k (e | e | e | e | e)
    · exact .inr (.inr (.inr (by rw [e]; exact hw)))
    · exact .inr (.inr (.inr (by rw [e]; exact hv)))
    · exact .inl e
    · exact .inr (.inl e)
    · exact .inr (.inr (.inl ⟨sw, q3, e⟩))
  · intro sw' h' k hk
    have e : sw'.v = sw.v := by rw [q3] at h'; exact (Option.some.inj h').symm
    rw [e] at hk
    exact .inr (.inr (.inr (.inr hk)))
/-- The first state. -/
theorem MI.made {m : Mk} {G : Bs → Int} {w : World} (fm : ∃ A, SI m.fb A w ∧ ∀ t, (A.f t).getD 0 = G t) (kc : w.cell? ⟨m.kb, 0, none⟩ = some (.map (some m.nb))) (jc : w.cell? ⟨m.jb, 0, none⟩ = some (.pointer (some ⟨m.pb, 1, none⟩))) (nm : SI m.nb AMap.empty w) (pz : ∀ j, w.frozen? ⟨m.pb, j, none⟩ = false) (bl : m.base ≤ w.heap.size)
    (p0 : w.cell? ⟨m.pb, 0, none⟩ = some (.slice none 0 0)) (p1 : w.cell? ⟨m.pb, 1, none⟩ = some (.slice none 0 0)) (ne : m.pb ≠ m.nb ∧ m.pb ≠ m.fb ∧ m.pb ≠ m.kb ∧ m.pb ≠ m.jb ∧ m.nb ≠ m.fb ∧ m.nb ≠ m.kb ∧ m.nb ≠ m.jb) : MI m G [] [] w :=
  ⟨fm, kc, jc, ⟨_, nm, fun _ => rfl, Nat.le_refl _⟩, pz, lt_of_cell p0, bl, ⟨nilS, nilS, [], p0, World.ownsRow_nil _ _ _ _, p1, World.ownsRow_nil _ _ _ _, ⟨rfl, fun i r x h => by simp at h⟩, fun b h => (by cases h), fun b h => (by cases h)⟩, ne⟩
/-- A writer has done. -/
theorem MI.after {m : Mk} {G : Bs → Int} {cs : List Cd} {ws : List Bs} {w w2 w8 : World} (h : MI m G cs ws w) {sc : Slc} (hsc : w.cell? ⟨m.pb, 0, none⟩ = some sc.v) (hf : Fr nothing w w2) {wb vb : Nat} {T T8 : Nat → Prop} {sE : Ks} (hT : ∀ k, T k → k = m.nb ∨ k = m.pb ∨ (∃ sw : Slc, w.cell? ⟨m.pb, 1, none⟩ = some sw.v ∧ sw.v.ownBlock = some k) ∨ w.heap.size ≤ k)
    (K8 : KI ⟨wb, m.fb, vb, m.kb, m.jb, m.nb, m.pb, m.base, sc.v⟩ G T8 sE w8) (F8 : Fr T w2 w8) (t8 : ∀ k, T8 k → T k ∨ w2.heap.size ≤ k) {sl : Slc} (hsl : w8.cell? ⟨wb, 5, none⟩ = some sl.v) :
    MI m G cs sE.ws w8 ∧ Sl encI 3 w8 sl.v sE.ins ∧ ∀ sw : Slc, w8.cell? ⟨m.pb, 1, none⟩ = some sw.v → ∀ b, sl.v.ownBlock = some b → b < w8.heap.size ∧ b ≠ m.nb ∧ b ≠ m.pb ∧ sw.v.ownBlock ≠ some b ∧ sc.v.ownBlock ≠ some b ∧ m.base ≤ b := by
  obtain ⟨sc', sw, rs, r1, r2, r3, r4, r5, r6, r7⟩ := h.rows
  have esc : sc'.v = sc.v := by rw [r1] at hsc; exact Option.some.inj hsc
  rw [esc] at r2 r5 r6
  obtain ⟨sl', sw', u1, u2, u3, u4, u5, u6⟩ := K8.rows
  simp only at u1 u2 u3 u4 u5 u6
  have esl : sl'.v = sl.v := by rw [u1] at hsl; exact Option.some.inj hsl
  rw [esl] at u2 u5
  have hscl : ∀ b, sc.v.ownBlock = some b → b < w.heap.size := fun b hb => (r2.lt b hb).2
  -- what is not of the writer's
  have nT : ∀ k, k < w.heap.size → k ≠ m.nb → k ≠ m.pb → sw.v.ownBlock ≠ some k → ¬ T k := by
    intro k k1 k2 k3 k4 e
    rcases hT k e with e | e | ⟨sw2, e1, e2⟩ | e
    · exact k2 e
    · exact k3 e
    · have e3 : sw2.v = sw.v := by rw [r3] at e1; exact (Option.some.inj e1).symm
      rw [e3] at e2
      exact k4 e2
    · omega
  have nT8 : ∀ k, k < w.heap.size → k ≠ m.nb → k ≠ m.pb → sw.v.ownBlock ≠ some k → ¬ T8 k := by
    intro k k1 k2 k3 k4 e
    rcases t8 k e with e | e
    · exact nT k k1 k2 k3 k4 e
    · have := hf.size; omega
  have hsz : w.heap.size ≤ w8.heap.size := Nat.le_trans hf.size F8.size
  obtain ⟨_, _, _, _, tf, tk, tj⟩ := K8.tt
  refine ⟨⟨K8.fm, K8.kc, K8.jc, K8.nm, K8.pz, K8.pl, K8.bl, ⟨sc, sw', rs, K8.p0, ?_, u3, u4, ⟨r5.1, fun i r x h1 h2 => ?_⟩, ?_, ?_⟩, h.ne⟩, ?_, ?_⟩
  · exact owns_fr (owns_fr r2 hf (fun _ _ => id)) F8 (fun k hk => nT k (hscl k hk) (r6 k hk).1 (r6 k hk).2.1 (r6 k hk).2.2.1)
  · refine cd_stays _ _ T _ _ _ _ (cd_stays _ _ nothing _ (fun k => k < w.heap.size ∧ k ≠ m.nb ∧ k ≠ m.pb ∧ sw.v.ownBlock ≠ some k ∧ sc.v.ownBlock ≠ some k ∧ m.base ≤ k) _ _ (r5.2 i r x h1 h2) hf (fun _ _ => id) (fun _ hk => hk)) F8 (fun k hk => nT k hk.1 hk.2.1 hk.2.2.1 hk.2.2.2.1) (fun k hk => ⟨by have := hk.1; omega, hk.2.1, hk.2.2.1, fun e => nT8 k hk.1 hk.2.1 hk.2.2.1 hk.2.2.2.1 (u6 k e).1, hk.2.2.2.2⟩)
  · intro b hb
    obtain ⟨q1, q2, q3, q4, q5, q6⟩ := r6 b hb
    exact ⟨q1, q2, fun e => nT8 b (hscl b hb) q1 q2 q3 (u6 b e).1, q4, q5, q6⟩
  · intro b hb
    obtain ⟨q1, q2, q3, q4, q5⟩ := u6 b hb
    exact ⟨q5, q3, fun e => tf (e ▸ q1), fun e => tk (e ▸ q1), fun e => tj (e ▸ q1)⟩
  · exact sl_of_owns encI_len u2
  · intro sw2 h2 b hb
    have e : sw2.v = sw'.v := by rw [u3] at h2; exact (Option.some.inj h2).symm
    rw [e]
    obtain ⟨q1, q2, q3, q4, q5, q6⟩ := u5 b hb
    exact ⟨K8.tl b q1, q6, q3, q4, fun e => nT8 b (hscl b e) (r6 b e).1 (r6 b e).2.1 (r6 b e).2.2.1 q1, (u2.lt b hb).1⟩
/-- A function's code more: the row has grown (w1), and the program's field is written. -/
theorem MI.push {m : Mk} {G : Bs → Int} {cs : List Cd} {ws : List Bs} {w w1 : World} (h : MI m G cs ws w) {sc : Slc} (hsc : w.cell? ⟨m.pb, 0, none⟩ = some sc.v) {rs : List RawC} (hown : w.ownsRow m.base 40 3 sc.v cs.length (rs.flatMap encC)) {r : RawC} {x : Cd} {g cap : Nat}
    (hr : w1.ownsRow m.base 40 3 (.slice (some ⟨g, 0, none⟩) (cs.length + 1) cap) (cs.length + 1) (rs.flatMap encC ++ encC r)) (hf : Fr (fun k => sc.v.ownBlock = some k) w w1) (hg : sc.v.ownBlock = some g ∨ w.heap.size ≤ g)
    (hx : ∀ sw : Slc, w.cell? ⟨m.pb, 1, none⟩ = some sw.v → CdOk w (fun k => k < w.heap.size ∧ k ≠ m.nb ∧ k ≠ m.pb ∧ sw.v.ownBlock ≠ some k ∧ sc.v.ownBlock ≠ some k ∧ m.base ≤ k) r x) :
    MI m G (cs ++ [x]) ws (w1.setCell ⟨m.pb, 0, none⟩ (.slice (some ⟨g, 0, none⟩) (cs.length + 1) cap)) ∧ Fr (fun k => sc.v.ownBlock = some k ∨ k = m.pb) w (w1.setCell ⟨m.pb, 0, none⟩ (.slice (some ⟨g, 0, none⟩) (cs.length + 1) cap)) := by
  obtain ⟨A, a1, a2⟩ := h.fm
  obtain ⟨C, d1, d2⟩ := h.nm
  obtain ⟨sc', sw, rs', r1, r2, r3, r4, r5, r6, r7⟩ := h.rows
  have esc : sc'.v = sc.v := by rw [r1] at hsc; exact Option.some.inj hsc
  rw [esc] at r2 r5 r6
  have ers : rs'.flatMap encC = rs.flatMap encC := owns_same r2 hown
  have fl := h.fl
  have ne := h.ne
  have hxx := hx sw r3
  obtain ⟨W, hW⟩ : ∃ W, W = w1.setCell ⟨m.pb, 0, none⟩ (.slice (some ⟨g, 0, none⟩) (cs.length + 1) cap) := ⟨_, rfl⟩
  rw [← hW]
  have hf2 : Fr (fun k => k = m.pb) w1 W := by rw [hW]; exact (Fr.refl (fun k => k = m.pb) w1).setCell (p := ⟨m.pb, 0, none⟩) (.inl rfl) _
  have hF : Fr (fun k => sc.v.ownBlock = some k ∨ k = m.pb) w W := (hf.mono (fun _ _ e => .inl e)).trans (hf2.mono (fun _ _ e => .inr e))
  have hnp : ¬ sc.v.ownBlock = some m.pb := fun e => (r6 _ e).2.1 rfl
  have cp : ∀ j, w1.cell? ⟨m.pb, j, none⟩ = w.cell? ⟨m.pb, j, none⟩ := fun j => hf.cell (p := ⟨m.pb, j, none⟩) h.pl hnp
  have p0 : W.cell? ⟨m.pb, 0, none⟩ = some (.slice (some ⟨g, 0, none⟩) (cs.length + 1) cap) := by rw [hW]; exact World.cell?_setCell_same w1 ⟨m.pb, 0, none⟩ _ ((cp 0).trans hsc)
  have p1 : W.cell? ⟨m.pb, 1, none⟩ = some sw.v := by rw [hW, World.cell?_setCell_other w1 ⟨m.pb, 0, none⟩ ⟨m.pb, 1, none⟩ _ (by simp), cp 1]; exact r3
  have hgp : g ≠ m.pb := by
    rcases hg with e | e
    · exact (r6 g e).2.1
    · have := h.pl; omega
  have hgl : g < w1.heap.size := (hr.lt g rfl).2
  have nb : ¬ (sc.v.ownBlock = some m.nb ∨ m.nb = m.pb) := by rintro (e | e); exact (r6 _ e).1 rfl; exact ne.1 e.symm
  refine ⟨⟨⟨A, a1.fr hF (by rintro (e | e); exact (r6 _ e).2.2.2.1 rfl; exact ne.2.1 e.symm), a2⟩, (hF.cell (p := ⟨m.kb, 0, none⟩) fl.2.1 (by rintro (e | e); exact (r6 _ e).2.2.2.2.1 rfl; exact ne.2.2.1 e.symm)).trans h.kc, (hF.cell (p := ⟨m.jb, 0, none⟩) fl.2.2.1 (by rintro (e | e); exact (r6 _ e).2.2.2.2.2 rfl; exact ne.2.2.2.1 e.symm)).trans h.jc, ⟨C, d1.fr hF nb, d2⟩, fun j => ?_, Nat.lt_of_lt_of_le h.pl hF.size, Nat.le_trans h.bl hF.size,
    ⟨⟨some ⟨g, 0, none⟩, cs.length + 1, cap⟩, sw, rs' ++ [r], p0, ?_, p1, owns_fr r4 hF ?_, ⟨by simp [r5.1], fun i r' x' h1 h2 => ?_⟩, ?_, r7⟩, h.ne⟩, hF⟩
  · rw [hW, World.frozen?_setCell, hf.frozen (p := ⟨m.pb, j, none⟩) h.pl hnp]; exact h.pz j
  · have := owns_fr hr hf2 (fun k hk e => by cases hk; exact hgp e)
    rw [List.length_append, List.length_singleton, List.flatMap_append, ers]
    simpa using this
  · intro k hk
    rintro (e | e)
    · exact (r6 k e).2.2.1 hk
    · exact (r7 k hk).2.1 e
  · have key : ∀ k, (k < w.heap.size ∧ k ≠ m.nb ∧ k ≠ m.pb ∧ sw.v.ownBlock ≠ some k ∧ sc.v.ownBlock ≠ some k ∧ m.base ≤ k) → k < W.heap.size ∧ k ≠ m.nb ∧ k ≠ m.pb ∧ sw.v.ownBlock ≠ some k ∧ (Slc.v ⟨some ⟨g, 0, none⟩, cs.length + 1, cap⟩).ownBlock ≠ some k ∧ m.base ≤ k := by
      intro k hk
      refine ⟨Nat.lt_of_lt_of_le hk.1 hF.size, hk.2.1, hk.2.2.1, hk.2.2.2.1, fun e => ?_, hk.2.2.2.2.2⟩
      obtain rfl : g = k := Option.some.inj e
      rcases hg with e2 | e2
      · exact hk.2.2.2.2.1 e2
      · have := hk.1; omega
    have no : ∀ k, (k < w.heap.size ∧ k ≠ m.nb ∧ k ≠ m.pb ∧ sw.v.ownBlock ≠ some k ∧ sc.v.ownBlock ≠ some k ∧ m.base ≤ k) → ¬ (sc.v.ownBlock = some k ∨ k = m.pb) := by
      rintro k hk (e | e)
      · exact hk.2.2.2.2.1 e
      · exact hk.2.2.1 e
    rcases Nat.lt_or_ge i cs.length with hi | hi
    · rw [List.getElem?_append_left (by rw [r5.1]; exact hi)] at h1
      rw [List.getElem?_append_left hi] at h2
      exact cd_stays _ _ _ _ _ _ _ (r5.2 i r' x' h1 h2) hF no key
    · have e1 : i = cs.length := by
        have := (List.getElem?_eq_some_iff.1 h2).1
        simp at this
        omega
      subst e1
      rw [← r5.1, List.getElem?_append_right (Nat.le_refl _)] at h1
      rw [List.getElem?_append_right (Nat.le_refl _)] at h2
      simp at h1 h2
      subst h1 h2
      exact cd_stays _ _ _ _ _ _ _ hxx hF no key
  · intro b hb
    obtain rfl : g = b := Option.some.inj hb
    rcases hg with e | e
    · exact r6 g e
    · have h1 := h.pl
      refine ⟨by omega, by omega, fun e2 => ?_, by omega, by omega, by omega⟩
      have := (r4.lt g e2).2
      omega
theorem MI.codes {m : Mk} {G : Bs → Int} {cs : List Cd} {ws : List Bs} {w : World} (h : MI m G cs ws w) : ∃ (ca : Option Addr) (cc : Nat) (rs : List RawC), w.cell? ⟨m.pb, 0, none⟩ = some (.slice ca cs.length cc) ∧ w.ownsRow m.base 40 3 (.slice ca cs.length cc) cs.length (rs.flatMap encC) ∧ ∀ b, (Value.slice ca cs.length cc).ownBlock = some b → b ≠ m.pb := by
  obtain ⟨⟨a, n, cc⟩, sw, rs, r1, r2, r3, r4, r5, r6, r7⟩ := h.rows
  have hn : n = cs.length := by
    rcases r2.2 with ⟨e, e2⟩ | ⟨g, cap, cur, e, _⟩
    · simp only [Slc.v, Value.slice.injEq] at e; omega
    · simp only [Slc.v, Value.slice.injEq] at e; exact e.2.1
  subst hn
  exact ⟨a, cc, rs, r1, r2, fun b hb => (r6 b hb).2.1⟩
/-- Two cells of a block are written. -/
theorem set2 {w : World} {b : Nat} {u0 u1 : Value} (v0 v1 : Value) (m0 : w.cell? ⟨b, 0, none⟩ = some u0) (m1 : w.cell? ⟨b, 1, none⟩ = some u1) :
    ∃ w', w' = (w.setCell ⟨b, 0, none⟩ v0).setCell ⟨b, 1, none⟩ v1 ∧ w'.cell? ⟨b, 0, none⟩ = some v0 ∧ w'.cell? ⟨b, 1, none⟩ = some v1 ∧ Fr (fun k => k = b) w w' := by
  refine ⟨_, rfl, ?_, ?_, ?_⟩
  · rw [World.cell?_setCell_other _ ⟨b, 1, none⟩ ⟨b, 0, none⟩ _ (by simp)]
    exact World.cell?_setCell_same _ _ _ m0
  · exact World.cell?_setCell_same _ _ _ (by rw [World.cell?_setCell_other _ ⟨b, 0, none⟩ ⟨b, 1, none⟩ _ (by simp)]; exact m1)
  · exact ((Fr.refl (fun k => k = b) w).setCell (p := ⟨b, 0, none⟩) (.inl rfl) _).setCell (p := ⟨b, 1, none⟩) (.inl rfl) _
/-- What Make has gathered is the program. -/
theorem MI.done {m : Mk} {G : Bs → Int} {cs : List Cd} {ws : List Bs} {w w' : World} (h : MI m G cs ws w) {S : Nat → Prop} (hf : Fr S w w') (hS : ∀ k, S k → k < m.base) {sc sw : Slc} (h0 : w.cell? ⟨m.pb, 0, none⟩ = some sc.v) (h1 : w.cell? ⟨m.pb, 1, none⟩ = some sw.v) : PgOk w' sc sw ⟨cs, ws⟩ := by
  obtain ⟨sc', sw', rs, r1, r2, r3, r4, r5, r6, r7⟩ := h.rows
  have e1 : sc'.v = sc.v := by rw [r1] at h0; exact Option.some.inj h0
  have e2 : sw'.v = sw.v := by rw [r3] at h1; exact Option.some.inj h1
  rw [e1] at r2
  rw [e2] at r4
  have a1 := owns_fr r2 hf (fun k hk e => by have := (r2.lt k hk).1; have := hS k e; omega)
  have a2 := owns_fr r4 hf (fun k hk e => by have := (r4.lt k hk).1; have := hS k e; omega)
  refine ⟨⟨rs, sl_of_owns encC_len (by rw [r5.1]; exact a1), r5.1, fun i r x k1 k2 => cd_stays _ _ S _ _ _ _ (r5.2 i r x k1 k2) hf (fun k hk e => by have := hS k e; have := hk.2.2.2.2.2; omega) (fun _ hk => Nat.lt_of_lt_of_le hk.1 hf.size)⟩, sl_of_owns encN_len a2, fun b hb => (a1.lt b hb).2, fun b hb => (a2.lt b hb).2⟩
end Go.Proofs.YtkmdamljhagogaaDoor
end
section
/- The document's own answer: pieces of code, one behind the other. -/
set_option maxHeartbeats 0
set_option maxRecDepth 100000
namespace Go.Proofs.YtkmdamljhagogaaDoor
open Go Go.RowKit
/-- An append whose run is known, at a plain region; as a step of one that draws its order. -/
theorem wpList_run {P : Program} {w : World} {ops : Array Oper} {rest : List Oper} {o : Oper} {a : Act} {Q : Exit → Act → World → Prop} (hgd : o.guard = none) (s x : Operand) (t : TypeId) (ho : o.op = .call { callee := .builtin .append, args := #[s, x], argTypes := #[t, t] }) (v u : Value) (hs : a.eval s = v) (hx : a.eval x = u) {r : Value} {w' : World} (hrun : (Builtin.append_ #[t, t] o.type #[v, u]).run P w = .ok r w') (h : wpList P ops Q rest (a.put o.dst r) w') : wpList P ops Q (o :: rest) a w :=
  wpList_plain hgd fun K hK => by
    unfold Oper.wp execOp
    simp only [ho, resolve, invoke, builtin, Sem.run_bind, Sem.run_pure, Result.andThen_ok, List.map_toArray, List.map_cons, List.map_nil, hs, hx, hrun]
    exact hK _ _ h
theorem step_run {P : Program} {w : World} {ops : Array Oper} {o : Oper} {a : Act} {K : Act → World → Prop} {Q : Exit → Act → World → Prop} {E : Prop} (hgd : o.guard = none) (s x : Operand) (t : TypeId) (ho : o.op = .call { callee := .builtin .append, args := #[s, x], argTypes := #[t, t] }) (v u : Value) (hs : a.eval s = v) (hx : a.eval x = u) {r : Value} {w' : World} (hrun : (Builtin.append_ #[t, t] o.type #[v, u]).run P w = .ok r w') (h : K (a.put o.dst r) w') :
    if Region.wanted o (yielded ops a.tmps) = true then Oper.wp P o a w K Q else E := by
  have hw : Region.wanted o (yielded ops a.tmps) = true := by simp [Region.wanted, hgd]
  rw [if_pos hw]
  unfold Oper.wp execOp
  simp only [ho, resolve, invoke, builtin, Sem.run_bind, Sem.run_pure, Result.andThen_ok, List.map_toArray, List.map_cons, List.map_nil, hs, hx, hrun]
  exact h
/-- A list of instructions that is the call's own. -/
structure OwnI (base : Nat) (q : Slc) (l : List In) (w : World) : Prop where
  n : q.n = l.length
  row : w.ownsRow base 45 3 q.v l.length (l.flatMap encI)
theorem OwnI.sl {base : Nat} {q : Slc} {l : List In} {w : World} (h : OwnI base q l w) : Sl encI 3 w q.v l := sl_of_owns encI_len h.row
theorem OwnI.fr {base : Nat} {q : Slc} {l : List In} {w w' : World} {S : Nat → Prop} (h : OwnI base q l w) (hf : Fr S w w') (hs : ∀ b, q.v.ownBlock = some b → ¬ S b) : OwnI base q l w' := ⟨h.n, owns_fr h.row hf hs⟩
theorem OwnI.lt {base : Nat} {q : Slc} {l : List In} {w : World} (h : OwnI base q l w) {b : Nat} (hb : q.v.ownBlock = some b) : base ≤ b ∧ b < w.heap.size := h.row.lt b hb
theorem OwnI.nil (base : Nat) (w : World) : OwnI base nilS [] w := ⟨rfl, World.ownsRow_nil _ _ _ _⟩
theorem ins_one (l : List In) : ∀ u ∈ l.flatMap encI, u.oneCell' = true := by
  intro u hu
  obtain ⟨x, _, hx⟩ := List.mem_flatMap.1 hu
  simp only [encI, List.mem_cons, List.not_mem_nil, or_false] at hx
  rcases hx with rfl | rfl | rfl <;> rfl
theorem OwnI.app {base : Nat} {q x : Slc} {xs ys : List In} {w : World} (h : OwnI base q xs w) (hs : Sl encI 3 w x.v ys) (hb : base ≤ w.heap.size) (hl : xs.length + ys.length ≤ 1000000) :
    ∃ (q' : Slc) (w' : World), (Builtin.append_ #[38, 38] 38 #[.slice q.a q.n q.c, .slice x.a x.n x.c]).run Tryd.prog w = .ok (.slice q'.a q'.n q'.c) w' ∧ OwnI base q' (xs ++ ys) w' ∧ Fr (fun k => q.v.ownBlock = some k) w w' ∧ (∀ b, q'.v.ownBlock = some b → q.v.ownBlock = some b ∨ w.heap.size ≤ b) := by
  obtain ⟨j0, hj0, hy0, hy1, hy2⟩ := info_parts sizeIn
  obtain ⟨hn, hm⟩ := sl_len hs
  obtain ⟨xa, xn, xc⟩ := x
  simp only at hn
  subst hn
  rcases Nat.eq_zero_or_pos ys.length with h0 | hp
  · have e : ys = [] := List.length_eq_zero_iff.1 h0
    subst e
    have hsrc : Src Tryd.prog j0.size 38 (.slice xa 0 xc) 0 [] w := by
      cases xa with
      | none => exact Src.ofNil w Tryd.underlying38 xc
      | some ad => exact Src.ofSlice w Tryd.underlying38 ad 0 xc [] (by simp) (by simp) (by simp)
    have hle : q.n ≤ q.c := by
      rcases h.row.2 with ⟨e, _⟩ | ⟨g, cap, cur, e, _, _, h2, _⟩
      · simp only [Slc.v, Value.slice.injEq] at e; omega
      · simp only [Slc.v, Value.slice.injEq] at e; have := h.n; omega
    refine ⟨q, w, run_append_nothing w 38 38 38 45 j0 Tryd.underlying38 hj0 q.a q.n q.c hle (.slice xa 0 xc) hsrc, by rw [List.append_nil]; exact h, Fr.refl _ _, fun b hb => .inl hb⟩
  · have hfl : (ys.flatMap encI).length = ys.length * 3 := flat_length encI 3 encI_len ys
    have hget : ∀ j u, (ys.flatMap encI)[j]? = some u → ∃ ad, xa = some ad ∧ w.cell? (ad.add j) = some u := by
      intro j u hj
      have hjl : j < ys.length * 3 := by rw [← hfl]; exact (List.getElem?_eq_some_iff.1 hj).1
      obtain ⟨ao, cap, he, _, hc⟩ := hs
      simp only [Value.slice.injEq] at he
      obtain ⟨rfl, _, _⟩ := he
      have hi : j / 3 < ys.length := by omega
      obtain ⟨b, off, rfl, _, hcell⟩ := hc (j / 3) _ (List.getElem?_eq_getElem hi)
      refine ⟨_, rfl, ?_⟩
      have h3 : (encI ys[j / 3])[j % 3]? = some u := by
        have hk : ∃ u', (encI ys[j / 3])[j % 3]? = some u' := ⟨_, List.getElem?_eq_getElem (by rw [encI_len]; omega)⟩
        obtain ⟨u', hu'⟩ := hk
        have := flat_get encI 3 encI_len ys (j / 3) _ (j % 3) u' (List.getElem?_eq_getElem hi) hu'
        rw [show j / 3 * 3 + j % 3 = j by omega, hj] at this
        rw [hu', this]
      rw [add_eq, ← hcell (j % 3) u h3]
      congr 2
      omega
    obtain ⟨ad, rfl, _⟩ := hget 0 _ (List.getElem?_eq_getElem (by omega))
    obtain ⟨g, cap, w', hr, h2, h3, h4, h5⟩ := run_append_lies (P := Tryd.prog) w 38 38 base 45 j0 _ 3 24 Tryd.underlying38 hj0 hy0 hy1 hy2 rfl (by decide) q.v xs.length _ h.row ad ys.length xc (ys.flatMap encI) hfl (fun j u hj => by
      obtain ⟨ad', e1, e2⟩ := hget j u hj
      obtain rfl : ad = ad' := by simpa using e1
      exact e2) (ins_one ys) hp (by unfold maxLen; omega) (by omega) hb _ rfl
    refine ⟨⟨some ⟨g, 0, none⟩, xs.length + ys.length, cap⟩, w', hr, ⟨by simp, by simpa using h2⟩, (Fr.refl _ w).grown h3 (fun k hk => .inl hk), fun b hb' => ?_⟩
    obtain rfl : g = b := Option.some.inj hb'
    exact h4.imp id (fun e => by omega)
/-- Jumps are as much further. -/
def shI (k : Int) (x : In) : In := if x.op = 15 ∨ x.op = 16 then { x with a := x.a + k } else x
def shiftI (k : Int) (l : List In) : List In := l.map (shI k)
def JOk (x : In) : Prop := (x.op = 15 ∨ x.op = 16) → 0 ≤ x.a ∧ x.a ≤ 1000000
theorem OwnI.lit (w : World) {base : Nat} (hb : base ≤ w.heap.size) : OwnI base ⟨some ⟨w.heap.size, 0, none⟩, 0, 0⟩ [] (w.alloc (.cells #[] 45)) :=
  ⟨rfl, World.ownsRow_lit (e := 45) w #[] 0 (size := 3) (base := base) hb (by unfold maxLen; omega) rfl⟩
theorem sl_litI (w : World) (x : In) : Sl encI 3 (w.alloc (.cells #[.int .i64 x.op, .int .i64 x.a, .int .i64 x.b] 45)) (Slc.v ⟨some ⟨w.heap.size, 0, none⟩, 1, 1⟩) [x] := by
  refine ⟨some ⟨w.heap.size, 0, none⟩, 1, rfl, by unfold maxLen; simp, fun i y hi => ?_⟩
  cases i with
  | zero =>
    simp at hi
    subst hi
    refine ⟨_, _, rfl, by simp, fun j u hu => ?_⟩
    have := World.news_of_block (cs := #[.int .i64 x.op, .int .i64 x.a, .int .i64 x.b]) (t := 45) (fr := (0, 0)) (heap_new w _) j u hu
    rw [add_eq] at this
    simpa using this
  | succ i => simp at hi
theorem sl_elemI {w : World} {s : Slc} {rs : List In} (h : Sl encI 3 w s.v rs) {i : Nat} {r : In} (hi : rs[i]? = some r) : ∃ b off, s.a = some ⟨b, off, none⟩ ∧ b < w.heap.size ∧ w.cell? ⟨b, off + i * 3, none⟩ = some (.int .i64 r.op) ∧ w.cell? ⟨b, off + i * 3 + 1, none⟩ = some (.int .i64 r.a) ∧ w.cell? ⟨b, off + i * 3 + 2, none⟩ = some (.int .i64 r.b) := by
  obtain ⟨ao, cap, he, _, hc⟩ := h
  obtain ⟨b, off, rfl, hb, hcell⟩ := hc i r hi
  simp only [Value.slice.injEq] at he
  exact ⟨b, off, he.1, hb, hcell 0 _ rfl, hcell 1 _ rfl, hcell 2 _ rfl⟩
theorem shift_snoc (k : Int) (l : List In) (x : In) : shiftI k (l ++ [x]) = shiftI k l ++ [shI k x] := by simp [shiftI]
theorem join_any (qa qb : Slc) (la lb : List In) (w : World) (ha : Sl encI 3 w qa.v la) (hb : Sl encI 3 w qb.v lb) (hl : la.length + lb.length ≤ 1000000) (hJ : ∀ x ∈ lb, JOk x) :
    Calls Tryd.prog 47 #[.slice qa.a qa.n qa.c, .slice qb.a qb.n qb.c] w fun e w' => ∃ q : Slc, e = .returned (.slice q.a q.n q.c) ∧ OwnI w.heap.size q (la ++ shiftI la.length lb) w' ∧ Fr nothing w w' := by
  obtain ⟨hna, hma⟩ := sl_len ha
  obtain ⟨hnb, hmb⟩ := sl_len hb
  obtain ⟨aa, an, ac⟩ := qa
  obtain ⟨ba, bn, bc⟩ := qb
  simp only at hna hnb
  subst hna
  subst hnb
  have hF1 : Fr nothing w (w.alloc (.cells #[] 45)) := (Fr.refl _ _).alloc _
  obtain ⟨q1, w2, hrun, own1, hF2, hat2⟩ := (OwnI.lit w (Nat.le_refl _)).app (x := ⟨aa, la.length, ac⟩) (ha.fr hF1 (fun _ _ => id)) hF1.size (by simp; omega)
  simp only [List.nil_append] at own1
  have hF02 : Fr nothing w w2 := hF1.then hF2 (fun k hk e => by have : w.heap.size = k := Option.some.inj e; omega)
  have HB := hide hb
  have HO := hide own1
  have HF := hide hF02
  have HJ := hide hJ
  have hbl : lb.length ≤ 9223372036854775807 := by omega
  have hal : la.length ≤ 9223372036854775807 := by omega
  clear hF1 own1 hF2 hat2 hF02 ha hb hJ
  go_enter Tryd.func47, Tryd.ntmps47
  go_wp2_with (at_builtin; go_must (refine wpList_run rfl _ _ 38 rfl _ _ rfl rfl hrun ?_))
  clear hrun
  go_loopw [13, 5, 7] (fun i v _ wr => ∃ (j : Nat) (q : Slc), j ≤ lb.length ∧ i = .int .i64 j ∧ v = .slice q.a q.n q.c ∧ Hid (OwnI w.heap.size q (la ++ shiftI la.length (lb.take j)) wr ∧ Fr nothing w wr)) (fun i _ _ _ => lb.length - (intOf i).toNat)
  case atStart => exact ⟨0, q1, Nat.zero_le _, rfl, rfl, by simpa [shiftI] using HO.out, HF.out⟩
  case round =>
    obtain ⟨j, q, hj, rfl, rfl, hR⟩ := hrel
    by_cases hjl : j < lb.length
    · have hx : lb[j]? = some lb[j] := List.getElem?_eq_getElem hjl
      have hxm : lb[j] ∈ lb := List.getElem_mem hjl
      have htk : lb.take (j + 1) = lb.take j ++ [lb[j]] := (List.take_append_getElem hjl).symm
      generalize lb[j] = x at hx hxm htk
      obtain ⟨g, o, hg, dg, p0, p1, p2⟩ := sl_elemI (s := ⟨ba, lb.length, bc⟩) HB.out hx
      simp only at hg
      subst hg
      obtain ⟨hO, hF⟩ := hR.out
      rw [← hF.cell (p := ⟨g, _, none⟩) dg id] at p0 p1 p2
      have eg : g < wr.heap.size := Nat.lt_of_lt_of_le dg hF.size
      -- a copy of it, and a list of it alone
      have hFA : Fr nothing wr (wr.alloc (.cells #[.int .i64 (shI la.length x).op, .int .i64 (shI la.length x).a, .int .i64 (shI la.length x).b] 45)) := (Fr.refl _ _).alloc _
      have sA : (wr.alloc (.cells #[.int .i64 (shI la.length x).op, .int .i64 (shI la.length x).a, .int .i64 (shI la.length x).b] 45)).heap.size = wr.heap.size + 1 := by simp
      have hSL := sl_litI (wr.alloc (.cells #[.int .i64 (shI la.length x).op, .int .i64 (shI la.length x).a, .int .i64 (shI la.length x).b] 45)) (shI la.length x)
      rw [sA] at hSL
      have hFB : Fr nothing wr ((wr.alloc (.cells #[.int .i64 (shI la.length x).op, .int .i64 (shI la.length x).a, .int .i64 (shI la.length x).b] 45)).alloc (.cells #[.int .i64 (shI la.length x).op, .int .i64 (shI la.length x).a, .int .i64 (shI la.length x).b] 45)) := hFA.alloc _
      have hlen : (la ++ shiftI la.length (lb.take j)).length ≤ la.length + j := by simp [shiftI]; omega
      obtain ⟨q2, w5, hrun, own5, hF5, hat5⟩ := (hO.fr hFB (fun _ _ => id)).app (x := ⟨some ⟨wr.heap.size + 1, 0, none⟩, 1, 1⟩) hSL (Nat.le_trans hF.size hFB.size) (by simp only [List.length_singleton]; omega)
      have HN := hide (show OwnI w.heap.size q2 (la ++ shiftI la.length (lb.take (j + 1))) w5 by rw [htk, shift_snoc, ← List.append_assoc]; exact own5)
      have HFN := hide ((hF.trans hFB).then hF5 (fun k hk e => by have := (hO.lt e).1; omega))
      have hjk := HJ.out x hxm
      clear hR hO hF hFA sA hSL hFB own5 hF5 hat5 hx htk
      by_cases hop : x.op = 15 ∨ x.op = 16
      · have es : shI la.length x = ⟨x.op, x.a + la.length, x.b⟩ := by unfold shI; rw [if_pos hop]
        have hb2 := hjk hop
        rw [es] at hrun
        simp only at hrun
        clear es hjk
        have i1 : -9223372036854775808 ≤ x.a + (la.length : Nat) := by omega
        have i2 : x.a + (la.length : Nat) ≤ 9223372036854775807 := by omega
        rcases hop with hop | hop
        · rw [hop] at p0 hrun
          go_wp2_with (at_builtin; go_must (refine wpList_run rfl _ _ 38 rfl _ _ rfl rfl hrun ?_))
          go_roundw
          case rel => exact ⟨j + 1, q2, by omega, by go_num, rfl, HN.out, HFN.out⟩
          case measure => simp [intOf]; omega
        · rw [hop] at p0 hrun
          go_wp2_with (at_builtin; go_must (refine wpList_run rfl _ _ 38 rfl _ _ rfl rfl hrun ?_))
          go_roundw
          case rel => exact ⟨j + 1, q2, by omega, by go_num, rfl, HN.out, HFN.out⟩
          case measure => simp [intOf]; omega
      · have es : shI la.length x = x := by unfold shI; rw [if_neg hop]
        rw [es] at hrun
        clear es hjk
        have n15 : (x.op == 15) = false := by simp; omega
        have n16 : (x.op == 16) = false := by simp; omega
        go_wp2_with (at_builtin; go_must (refine wpList_run rfl _ _ 38 rfl _ _ rfl rfl hrun ?_))
        go_roundw
        case rel => exact ⟨j + 1, q2, by omega, by go_num, rfl, HN.out, HFN.out⟩
        case measure => simp [intOf]; omega
    · have hje : j = lb.length := by omega
      obtain ⟨hO, hF⟩ := hR.out
      rw [hje, List.take_length] at hO
      have HO2 := hide hO
      have HF2 := hide hF
      clear hR hO hF hje
      go_wp2
      go_ret
      exact ⟨q, rfl, HO2.out, HF2.out⟩
end Go.Proofs.YtkmdamljhagogaaDoor
end
section
/- The document's own answer: what its maker of code holds; maps of numbers. -/
set_option maxHeartbeats 0
set_option maxRecDepth 100000
namespace Go.Proofs.YtkmdamljhagogaaDoor
open Go Go.RowKit
theorem law3 : Maps.Keyed Tryd.prog 3 := Maps.int_keyed Tryd.underlying3
theorem key3 (k : Int) (h0 : -9223372036854775808 ≤ k) (h1 : k ≤ 9223372036854775807) : keyOf Tryd.prog 3 (.int .i64 k) = some (.int .i64 k) := Maps.keyOf_int_mk Tryd.underlying3 (by simp [Lit.wf, IntKind.min, IntKind.max, IntKind.signed, IntKind.bits]; omega)
/-- The block b is a map of numbers to numbers. -/
def II (b : Nat) (f : Int → Option Int) (n : Nat) (w : World) : Prop :=
  ∃ D : DataW Unit, w.ownsMap Tryd.prog 3 (plainElem Tryd.prog 3) b n D ∧ (∀ k, D.atKey (.int .i64 k) (.lit (.int .i64 0)) = .lit (.int .i64 ((f k).getD 0)))
theorem II.lt {b n : Nat} {f : Int → Option Int} {w : World} (h : II b f n w) : b < w.heap.size := by
  obtain ⟨D, h1, _⟩ := h
  exact World.ownsMap.lt h1
theorem II.made (w : World) : II w.heap.size (fun _ => none) 0 (w.alloc (.map #[] 0)) := ⟨.map [], World.ownsMap_made w Tryd.prog 3 _, fun _ => rfl⟩
theorem II.look {b n : Nat} {f : Int → Option Int} {w : World} (h : II b f n w) (k : Int) (h0 : -9223372036854775808 ≤ k) (h1 : k ≤ 9223372036854775807) : (Instr.lookup 99 (.map (some b)) (.int .i64 k) false).run Tryd.prog w = .ok (.int .i64 ((f k).getD 0)) w := by
  obtain ⟨D, g1, g2⟩ := h
  obtain ⟨c, hrun, hat, _⟩ := g1.lookup_int law3 Tryd.underlying99 Tryd.underlying3 (zero3 w) (key3 k h0 h1)
  rw [g2] at hat
  simp only [DataW.lit.injEq, Lit.int.injEq, true_and] at hat
  rw [hrun, hat]
theorem II.store {b n : Nat} {f : Int → Option Int} {w : World} (h : II b f n w) (k v : Int) (hn : n ≤ 100000) (h0 : -9223372036854775808 ≤ k) (h1 : k ≤ 9223372036854775807) (h2 : -9223372036854775808 ≤ v) (h3 : v ≤ 9223372036854775807) :
    ∃ w', (Instr.mapUpdate 99 (.map (some b)) (.int .i64 k) (.int .i64 v)).run Tryd.prog w = .ok () w' ∧ II b (fun x => if x = k then some v else f x) (n + 1) w' ∧ Fr (fun j => j = b) w w' := by
  obtain ⟨D, g1, g2⟩ := h
  have hw : (Lit.int .i64 v).wf = true := by simp [Lit.wf, IntKind.min, IntKind.max, IntKind.signed, IntKind.bits]; omega
  obtain ⟨w', hrun, ho, hg⟩ := g1.update law3 Tryd.underlying99 (by unfold maxLen; omega) (key3 k h0 h1) (plainElem_int Tryd.underlying3 hw)
  have hmap := isMap_of g1
  have hkey : WideAt.IsKeyLit (.int .i64 k) := by trivial
  refine ⟨w', hrun, ⟨D.put (.int .i64 k) (.lit (.int .i64 v)), ?_, fun x => ?_⟩, (Fr.refl _ w).grown hg (fun j hj => .inl (by simpa using hj.symm))⟩
  · exact ho
  · by_cases hx : x = k
    · subst hx
      rw [Maps.atKey_put_same hmap hkey]
      simp
    · rw [Maps.atKey_put_other (by intro e; exact hx (by cases e; rfl)), g2]
      simp [hx]
/-- The map of an expression's ops. -/
def opsF : Int → Option Int := fun x => if x = 10 then some 13 else if x = 9 then some 12 else if x = 8 then some 11 else if x = 7 then some 8 else if x = 6 then some 7 else if x = 5 then some 6 else none
theorem ops_run (w : World) : ∃ m1 m2 m3 m4 m5 m6 : World,
    (Instr.mapUpdate 99 (.map (some w.heap.size)) (.int .i64 5) (.int .i64 6)).run Tryd.prog (w.alloc (.map #[] 0)) = .ok () m1 ∧
    (Instr.mapUpdate 99 (.map (some w.heap.size)) (.int .i64 6) (.int .i64 7)).run Tryd.prog m1 = .ok () m2 ∧
    (Instr.mapUpdate 99 (.map (some w.heap.size)) (.int .i64 7) (.int .i64 8)).run Tryd.prog m2 = .ok () m3 ∧
    (Instr.mapUpdate 99 (.map (some w.heap.size)) (.int .i64 8) (.int .i64 11)).run Tryd.prog m3 = .ok () m4 ∧
    (Instr.mapUpdate 99 (.map (some w.heap.size)) (.int .i64 9) (.int .i64 12)).run Tryd.prog m4 = .ok () m5 ∧
    (Instr.mapUpdate 99 (.map (some w.heap.size)) (.int .i64 10) (.int .i64 13)).run Tryd.prog m5 = .ok () m6 ∧
    (∀ k : Int, -9223372036854775808 ≤ k → k ≤ 9223372036854775807 → (Instr.lookup 99 (.map (some w.heap.size)) (.int .i64 k) false).run Tryd.prog m6 = .ok (.int .i64 ((opsF k).getD 0)) m6) ∧ Fr nothing w m6 ∧ w.heap.size < m6.heap.size := by
  have h0 := II.made w
  have F0 : Fr (fun j => j = w.heap.size) (w.alloc (.map #[] 0)) (w.alloc (.map #[] 0)) := Fr.refl _ _
  obtain ⟨m1, r1, h1, g1⟩ := h0.store 5 6 (by decide) (by decide) (by decide) (by decide) (by decide)
  obtain ⟨m2, r2, h2, g2⟩ := h1.store 6 7 (by decide) (by decide) (by decide) (by decide) (by decide)
  obtain ⟨m3, r3, h3, g3⟩ := h2.store 7 8 (by decide) (by decide) (by decide) (by decide) (by decide)
  obtain ⟨m4, r4, h4, g4⟩ := h3.store 8 11 (by decide) (by decide) (by decide) (by decide) (by decide)
  obtain ⟨m5, r5, h5, g5⟩ := h4.store 9 12 (by decide) (by decide) (by decide) (by decide) (by decide)
  obtain ⟨m6, r6, h6, g6⟩ := h5.store 10 13 (by decide) (by decide) (by decide) (by decide) (by decide)
  exact ⟨m1, m2, m3, m4, m5, m6, r1, r2, r3, r4, r5, r6, fun k a b => h6.look k a b, ((Fr.refl nothing w).alloc _).then (((((F0.trans g1).trans g2).trans g3).trans g4).trans g5 |>.trans g6) (fun j hj e => by omega), h6.lt⟩
/-- The map of a statement's ops. -/
def stsF : Int → Option Int := fun x => if x = 9 then some 19 else if x = 8 then some 10 else if x = 7 then some 9 else if x = 6 then some 18 else if x = 5 then some 14 else none
theorem sts_run (w : World) : ∃ m1 m2 m3 m4 m5 : World,
    (Instr.mapUpdate 99 (.map (some w.heap.size)) (.int .i64 5) (.int .i64 14)).run Tryd.prog (w.alloc (.map #[] 0)) = .ok () m1 ∧
    (Instr.mapUpdate 99 (.map (some w.heap.size)) (.int .i64 6) (.int .i64 18)).run Tryd.prog m1 = .ok () m2 ∧
    (Instr.mapUpdate 99 (.map (some w.heap.size)) (.int .i64 7) (.int .i64 9)).run Tryd.prog m2 = .ok () m3 ∧
    (Instr.mapUpdate 99 (.map (some w.heap.size)) (.int .i64 8) (.int .i64 10)).run Tryd.prog m3 = .ok () m4 ∧
    (Instr.mapUpdate 99 (.map (some w.heap.size)) (.int .i64 9) (.int .i64 19)).run Tryd.prog m4 = .ok () m5 ∧
    (∀ k : Int, -9223372036854775808 ≤ k → k ≤ 9223372036854775807 → (Instr.lookup 99 (.map (some w.heap.size)) (.int .i64 k) false).run Tryd.prog m5 = .ok (.int .i64 ((stsF k).getD 0)) m5) ∧ Fr nothing w m5 ∧ w.heap.size < m5.heap.size := by
  have h0 := II.made w
  have F0 : Fr (fun j => j = w.heap.size) (w.alloc (.map #[] 0)) (w.alloc (.map #[] 0)) := Fr.refl _ _
  obtain ⟨m1, r1, h1, g1⟩ := h0.store 5 14 (by decide) (by decide) (by decide) (by decide) (by decide)
  obtain ⟨m2, r2, h2, g2⟩ := h1.store 6 18 (by decide) (by decide) (by decide) (by decide) (by decide)
  obtain ⟨m3, r3, h3, g3⟩ := h2.store 7 9 (by decide) (by decide) (by decide) (by decide) (by decide)
  obtain ⟨m4, r4, h4, g4⟩ := h3.store 8 10 (by decide) (by decide) (by decide) (by decide) (by decide)
  obtain ⟨m5, r5, h5, g5⟩ := h4.store 9 19 (by decide) (by decide) (by decide) (by decide) (by decide)
  exact ⟨m1, m2, m3, m4, m5, r1, r2, r3, r4, r5, fun k a b => h5.look k a b, ((Fr.refl nothing w).alloc _).then ((((F0.trans g1).trans g2).trans g3).trans g4 |>.trans g5) (fun j hj e => by omega), h5.lt⟩
theorem stsF_op (k : Int) (h1 : k ≠ 1) (h2 : k ≠ 2) (h3 : k ≠ 3) (h4 : k ≠ 4) : (stsF k).getD 0 = stOp k := by
  unfold stsF stOp
  by_cases e5 : k = 5
  · subst e5; rfl
  by_cases e6 : k = 6
  · subst e6; rfl
  by_cases e7 : k = 7
  · subst e7; rfl
  by_cases e8 : k = 8
  · subst e8; rfl
  by_cases e9 : k = 9
  · subst e9; rfl
  simp [e5, e6, e7, e8, e9]
theorem opsF_op (G E : Bs → Int) (k n : Int) (t : Bs) (len : Nat) (ws : List Bs) (h1 : k ≠ 1) (h2 : k ≠ 2) (h3 : k ≠ 3) (h4 : k ≠ 4) (h11 : k ≠ 11) : lastI G E k n t len ws = ⟨(opsF k).getD 0, 0, 0⟩ := by
  unfold lastI opsF plainOp
  rw [if_neg h1, if_neg h2, if_neg h3, if_neg h4, if_neg h11]
  by_cases e9 : k = 9
  · subst e9; rfl
  rw [if_neg e9]
  by_cases e5 : k = 5
  · subst e5; rfl
  by_cases e6 : k = 6
  · subst e6; rfl
  by_cases e7 : k = 7
  · subst e7; rfl
  by_cases e8 : k = 8
  · subst e8; rfl
  by_cases e10 : k = 10
  · subst e10; rfl
  simp [e5, e6, e7, e8, e9, e10]
/-- The maker's block, its functions, where the rows begin. -/
structure Rk where
  mb : Nat
  base : Nat
  fs : Slc
  rs : List RawF
structure RI (c : Rk) (T : Nat → Prop) (v : Nat) (ws : List Bs) (w : World) : Prop where
  c0 : w.cell? ⟨c.mb, 0, none⟩ = some c.fs.v
  c2 : w.cell? ⟨c.mb, 2, none⟩ = some (.int .i64 (v : Nat))
  fz : ∀ j, w.frozen? ⟨c.mb, j, none⟩ = false
  ml : c.mb < w.heap.size
  fn : Sl encG 3 w c.fs.v c.rs
  row : ∃ sw : Slc, w.cell? ⟨c.mb, 1, none⟩ = some sw.v ∧ w.ownsRow c.base 9 1 sw.v ws.length (ws.flatMap encN) ∧ (∀ b, sw.v.ownBlock = some b → T b ∧ b ≠ c.mb)
  bl : c.base ≤ w.heap.size
  tm : T c.mb
  tf : ∀ b, c.fs.v.ownBlock = some b → ¬ T b
  fl : ∀ b, c.fs.v.ownBlock = some b → b < w.heap.size
  tl : ∀ k, T k → k < w.heap.size
theorem RI.fr {c : Rk} {T S : Nat → Prop} {v : Nat} {ws : List Bs} {w w' : World} (h : RI c T v ws w) (hf : Fr S w w') (hT : ∀ k, T k → ¬ S k) (hS : ∀ b, c.fs.v.ownBlock = some b → ¬ S b) : RI c T v ws w' := by
  obtain ⟨sw, r1, r2, r3⟩ := h.row
  have cm : ∀ j, w'.cell? ⟨c.mb, j, none⟩ = w.cell? ⟨c.mb, j, none⟩ := fun j => hf.cell (p := ⟨c.mb, j, none⟩) h.ml (hT _ h.tm)
  exact ⟨(cm 0).trans h.c0, (cm 2).trans h.c2, fun j => (hf.frozen (p := ⟨c.mb, j, none⟩) h.ml (hT _ h.tm)).trans (h.fz j), Nat.lt_of_lt_of_le h.ml hf.size, h.fn.keep hf (P := fun k => c.fs.v.ownBlock = some k) (fun _ hb => hb) hS, ⟨sw, (cm 1).trans r1, owns_fr r2 hf (fun k hk => hT k (r3 k hk).1), r3⟩, Nat.le_trans h.bl hf.size, h.tm, h.tf, fun b hb => Nat.lt_of_lt_of_le (h.fl b hb) hf.size, fun k hk => Nat.lt_of_lt_of_le (h.tl k hk) hf.size⟩
theorem RI.new {c : Rk} {T : Nat → Prop} {v : Nat} {ws : List Bs} {w w' : World} (h : RI c T v ws w) (hf : Fr nothing w w') : RI c T v ws w' := h.fr hf (fun _ _ => id) (fun _ _ => id)
/-- What a call leaves. -/
def RP (c : Rk) (T : Nat → Prop) (w : World) (v : Nat) (ws : List Bs) (T' : Nat → Prop) (w' : World) : Prop := RI c T' v ws w' ∧ Fr T w w' ∧ ∀ k, T' k → T k ∨ w.heap.size ≤ k
theorem RP.of_new {c : Rk} {T : Nat → Prop} {v : Nat} {ws : List Bs} {w w' : World} (h : RI c T v ws w) (hf : Fr nothing w w') : RP c T w v ws T w' := ⟨h.new hf, hf.mono (fun _ _ e => e.elim), fun _ hk => .inl hk⟩
theorem RP.after {c : Rk} {T T1 T2 : Nat → Prop} {v : Nat} {ws : List Bs} {w w1 w2 : World} (h : RP c T1 w1 v ws T2 w2) (hf : Fr T w w1) (hT : ∀ k, T1 k → T k ∨ w.heap.size ≤ k) : RP c T w v ws T2 w2 := by
  obtain ⟨k1, k2, k3⟩ := h
  refine ⟨k1, hf.then k2 (fun k hk e => (hT k e).elim id (fun h => by omega)), fun k hk => ?_⟩
  rcases k3 k hk with h | h
  · exact hT k h
  · exact .inr (Nat.le_trans hf.size h)
theorem RI.vars {c : Rk} {T : Nat → Prop} {v : Nat} {ws : List Bs} {w : World} (h : RI c T v ws w) (u : Nat) : RI c T u ws (w.setCell ⟨c.mb, 2, none⟩ (.int .i64 (u : Nat))) ∧ Fr (fun k => k = c.mb) w (w.setCell ⟨c.mb, 2, none⟩ (.int .i64 (u : Nat))) := by
  obtain ⟨e1, e2, hf⟩ := set_one w c.mb 2 (.int .i64 (u : Nat)) h.c2
  obtain ⟨sw, r1, r2, r3⟩ := h.row
  refine ⟨⟨(e2 0 (by decide)).trans h.c0, e1, fun j => by rw [World.frozen?_setCell]; exact h.fz j, Nat.lt_of_lt_of_le h.ml hf.size, h.fn.keep hf (P := fun k => c.fs.v.ownBlock = some k) (fun _ hb => hb) (fun k hk e => h.tf k hk (e ▸ h.tm)), ⟨sw, (e2 1 (by decide)).trans r1, owns_fr r2 hf (fun k hk => (r3 k hk).2), r3⟩, Nat.le_trans h.bl hf.size, h.tm, h.tf, fun b hb => Nat.lt_of_lt_of_le (h.fl b hb) hf.size, fun k hk => Nat.lt_of_lt_of_le (h.tl k hk) hf.size⟩, hf⟩
/-- A text more. -/
theorem RI.word {c : Rk} {T : Nat → Prop} {v : Nat} {ws : List Bs} {w w2 : World} (h : RI c T v ws w) {t : Bs} {sw : Slc} (h1 : w.cell? ⟨c.mb, 1, none⟩ = some sw.v) {g cap : Nat} (hr : w2.ownsRow c.base 9 1 (.slice (some ⟨g, 0, none⟩) (ws.length + 1) cap) (ws.length + 1) (ws.flatMap encN ++ encN t)) (hf : Fr (fun k => sw.v.ownBlock = some k) w w2) (hg : sw.v.ownBlock = some g ∨ w.heap.size ≤ g) :
    RP c T w v (ws ++ [t]) (fun k => T k ∨ k = g) (w2.setCell ⟨c.mb, 1, none⟩ (.slice (some ⟨g, 0, none⟩) (ws.length + 1) cap)) := by
  obtain ⟨sw', r1, r2, r3⟩ := h.row
  have e : sw'.v = sw.v := by rw [r1] at h1; exact Option.some.inj h1
  rw [e] at r2 r3
  have nm : ¬ sw.v.ownBlock = some c.mb := fun e => (r3 _ e).2 rfl
  have hgm : g ≠ c.mb := by
    rcases hg with e | e
    · exact (r3 g e).2
    · have := h.ml; omega
  have cm : ∀ j, w2.cell? ⟨c.mb, j, none⟩ = w.cell? ⟨c.mb, j, none⟩ := fun j => hf.cell (p := ⟨c.mb, j, none⟩) h.ml nm
  obtain ⟨e1, e2, hf2⟩ := set_one w2 c.mb 1 (.slice (some ⟨g, 0, none⟩) (ws.length + 1) cap) ((cm 1).trans h1)
  have hF : Fr (fun k => sw.v.ownBlock = some k ∨ k = c.mb) w (w2.setCell ⟨c.mb, 1, none⟩ (.slice (some ⟨g, 0, none⟩) (ws.length + 1) cap)) := (hf.mono (fun _ _ e => .inl e)).trans (hf2.mono (fun _ _ e => .inr e))
  have hgl : g < w2.heap.size := (hr.lt g rfl).2
  have nf : ∀ b, c.fs.v.ownBlock = some b → ¬ (sw.v.ownBlock = some b ∨ b = c.mb) := by
    rintro b hb (e | e)
    · exact h.tf b hb (r3 b e).1
    · exact h.tf b hb (e ▸ h.tm)
  refine ⟨⟨(e2 0 (by decide)).trans ((cm 0).trans h.c0), (e2 2 (by decide)).trans ((cm 2).trans h.c2), fun j => ?_, Nat.lt_of_lt_of_le h.ml hF.size, h.fn.keep hF (P := fun k => c.fs.v.ownBlock = some k) (fun _ hb => hb) nf, ⟨⟨some ⟨g, 0, none⟩, ws.length + 1, cap⟩, e1, ?_, ?_⟩, Nat.le_trans h.bl hF.size, .inl h.tm, ?_, fun b hb => Nat.lt_of_lt_of_le (h.fl b hb) hF.size, ?_⟩, ?_, ?_⟩
  · rw [World.frozen?_setCell, hf.frozen (p := ⟨c.mb, j, none⟩) h.ml nm]; exact h.fz j
  · have := owns_fr hr hf2 (fun k hk e => by cases hk; exact hgm e)
    simpa using this
  · intro b hb
    obtain rfl : g = b := Option.some.inj hb
    exact ⟨.inr rfl, hgm⟩
  · rintro b hb (e | e)
    · exact h.tf b hb e
    · subst e
      rcases hg with e | e
      · exact h.tf b hb (r3 b e).1
      · have := h.fl b hb
        omega
  · rintro k (e | e)
    · exact Nat.lt_of_lt_of_le (h.tl k e) hF.size
    · subst e; exact Nat.lt_of_lt_of_le hgl hf2.size
  · exact hF.mono (fun k _ e => by rcases e with e | e; exact (r3 k e).1; exact e ▸ h.tm)
  · rintro k (e | e)
    · exact .inl e
    · subst e
      rcases hg with e | e
      · exact .inl (r3 k e).1
      · exact .inr e
end Go.Proofs.YtkmdamljhagogaaDoor
end
section
/- The document's own answer: what an op takes and leaves. -/
set_option maxHeartbeats 0
set_option maxRecDepth 100000
namespace Go.Proofs.YtkmdamljhagogaaDoor
open Go Go.RowKit
abbrev pv (p : Int × Int) : Value := .agg #[.int .i64 p.1, .int .i64 p.2]
def pL : List Value → Option (DataW Unit × List MemPlace)
  | [.int .i64 a, .int .i64 b] => some (.agg [.lit (.int .i64 a), .lit (.int .i64 b)], [])
  | _ => none
def pE : Value → Option (DataW Unit × List MemPlace)
  | .agg cs => pL cs.toList
  | _ => none
def pD (p : Int × Int) : DataW Unit := .agg [.lit (.int .i64 p.1), .lit (.int .i64 p.2)]
theorem pE_pv (p : Int × Int) : pE (pv p) = some (pD p, []) := rfl
theorem pL_inv {l : List Value} {p : Int × Int} {ps : List MemPlace} (h : pL l = some (pD p, ps)) : l = [.int .i64 p.1, .int .i64 p.2] := by
  unfold pL at h
  split at h
  · simp only [pD, Option.some.injEq, Prod.mk.injEq, DataW.agg.injEq, List.cons.injEq, DataW.lit.injEq, Lit.int.injEq, true_and, and_true] at h
    obtain ⟨⟨h1, h2⟩, _⟩ := h
    rw [h1, h2]
  · cases h
theorem pE_inv {v : Value} {p : Int × Int} {ps : List MemPlace} (h : pE v = some (pD p, ps)) : v = pv p := by
  unfold pE at h
  split at h
  · have := pL_inv h
    rename_i cs
    obtain ⟨l⟩ := cs
    simp only at this
    subst this
    rfl
  · cases h
def PD : List (Int × Int × Int) → DataW Unit
  | [] => .map []
  | p :: l => (PD l).put (.int .i64 p.1) (pD p.2)
theorem PD_map : ∀ l, Maps.IsMap (PD l)
  | [] => ⟨[], rfl⟩
  | _ :: l => (PD_map l).put _ _
theorem PD_at (k : Int) : ∀ l, (PD l).atKey (.int .i64 k) (pD (0, 0)) = pD (((l.find? fun p => p.1 == k).map Prod.snd).getD (0, 0))
  | [] => rfl
  | p :: l => by
    by_cases h : p.1 = k
    · subst h
      show ((PD l).put _ _).atKey _ _ = _
      rw [Maps.atKey_put_same (PD_map l) (by trivial)]
      simp
    · show ((PD l).put _ _).atKey _ _ = _
      rw [Maps.atKey_put_other (by intro e; exact h (by cases e; rfl)), PD_at k l]
      have : (p.1 == k) = false := by simpa using h
      simp [this]
theorem zeroA2 (w : World) : (zeroValue 108).run Tryd.prog w = .ok (pv (0, 0)) w := by
  kernel_rfl
def shapesL : List (Int × Int × Int) := [(19, 1, 0), (18, 1, 0), (16, 1, 0), (15, 0, 0), (14, 1, 0), (13, 1, 1), (12, 0, 1), (11, 1, 1), (10, 2, 0), (9, 2, 0), (8, 1, 1), (7, 1, 1), (6, 2, 1), (5, 2, 1), (4, 1, 0), (3, 0, 1), (2, 0, 1), (1, 0, 1)]
/-- What an op takes, and leaves. -/
def shapeC (i : In) : Int × Int := if i.op = 17 then (i.b, 1) else ((shapesL.find? fun p => p.1 == i.op).map Prod.snd).getD (0, 0)
theorem shape_any (i : In) (w : World) (h0 : -9223372036854775808 ≤ i.op) (h1 : i.op ≤ 9223372036854775807) :
    Calls Tryd.prog 49 #[.agg #[.int .i64 i.op, .int .i64 i.a, .int .i64 i.b]] w fun e w' => e = .returned (.tuple #[.int .i64 (shapeC i).1, .int .i64 (shapeC i).2]) ∧ Fr nothing w w' := by
  have hmm := @run_makeMap Tryd.prog
  have hF0 : Fr nothing w (w.alloc (.cells #[.int .i64 i.op, .int .i64 i.a, .int .i64 i.b] 45)) := (Fr.refl _ _).alloc _
  have hc := made_cells (Fr.refl nothing (w.alloc (.cells #[.int .i64 i.op, .int .i64 i.a, .int .i64 i.b] 45))) id
  have c0 := hc.1 0
  have c1 := hc.1 1
  have c2 := hc.1 2
  have cl := hc.2.2
  by_cases h17 : i.op = 17
  · have e : shapeC i = (i.b, 1) := by unfold shapeC; rw [if_pos h17]
    rw [e]
    have HF := hide hF0
    rw [h17] at c0 c1 c2 cl HF ⊢
    clear hF0 hc e hmm
    go_enter Tryd.func49, Tryd.ntmps49
    go_wp2
    exact bodyPost_ret (v := .tuple #[.int .i64 i.b, .int .i64 1]) (by simp [results, Tryd.results49, go_sem]) rfl ⟨rfl, HF.out⟩
  have e : shapeC i = ((shapesL.find? fun p => p.1 == i.op).map Prod.snd).getD (0, 0) := by unfold shapeC; rw [if_neg h17]
  have h17b : (i.op == 17) = false := by simpa using h17
  obtain ⟨w0, hw0⟩ : ∃ w0, w0 = w.alloc (.cells #[.int .i64 i.op, .int .i64 i.a, .int .i64 i.b] 45) := ⟨_, rfl⟩
  rw [← hw0] at hF0 c0 c1 c2 cl
  have s1 : w0.heap.size = w.heap.size + 1 := by rw [hw0]; simp
  have m0 := World.ownsMap_made w0 Tryd.prog 3 pE
  obtain ⟨w1, r1, m1, g1⟩ := World.ownsMap.update m0 law3 Tryd.underlying109 (by unfold maxLen; omega) (key3 1 (by decide) (by decide)) (show pE (.agg #[.int .i64 0, .int .i64 1]) = some (pD (0, 1), []) from rfl)
  obtain ⟨w2, r2, m2, g2⟩ := World.ownsMap.update m1 law3 Tryd.underlying109 (by unfold maxLen; omega) (key3 2 (by decide) (by decide)) (show pE (.agg #[.int .i64 0, .int .i64 1]) = some (pD (0, 1), []) from rfl)
  obtain ⟨w3, r3, m3, g3⟩ := World.ownsMap.update m2 law3 Tryd.underlying109 (by unfold maxLen; omega) (key3 3 (by decide) (by decide)) (show pE (.agg #[.int .i64 0, .int .i64 1]) = some (pD (0, 1), []) from rfl)
  obtain ⟨w4, r4, m4, g4⟩ := World.ownsMap.update m3 law3 Tryd.underlying109 (by unfold maxLen; omega) (key3 4 (by decide) (by decide)) (show pE (.agg #[.int .i64 1, .int .i64 0]) = some (pD (1, 0), []) from rfl)
  obtain ⟨w5, r5, m5, g5⟩ := World.ownsMap.update m4 law3 Tryd.underlying109 (by unfold maxLen; omega) (key3 5 (by decide) (by decide)) (show pE (.agg #[.int .i64 2, .int .i64 1]) = some (pD (2, 1), []) from rfl)
  obtain ⟨w6, r6, m6, g6⟩ := World.ownsMap.update m5 law3 Tryd.underlying109 (by unfold maxLen; omega) (key3 6 (by decide) (by decide)) (show pE (.agg #[.int .i64 2, .int .i64 1]) = some (pD (2, 1), []) from rfl)
  obtain ⟨w7, r7, m7, g7⟩ := World.ownsMap.update m6 law3 Tryd.underlying109 (by unfold maxLen; omega) (key3 7 (by decide) (by decide)) (show pE (.agg #[.int .i64 1, .int .i64 1]) = some (pD (1, 1), []) from rfl)
  obtain ⟨w8, r8, m8, g8⟩ := World.ownsMap.update m7 law3 Tryd.underlying109 (by unfold maxLen; omega) (key3 8 (by decide) (by decide)) (show pE (.agg #[.int .i64 1, .int .i64 1]) = some (pD (1, 1), []) from rfl)
  obtain ⟨w9, r9, m9, g9⟩ := World.ownsMap.update m8 law3 Tryd.underlying109 (by unfold maxLen; omega) (key3 9 (by decide) (by decide)) (show pE (.agg #[.int .i64 2, .int .i64 0]) = some (pD (2, 0), []) from rfl)
  obtain ⟨w10, r10, m10, g10⟩ := World.ownsMap.update m9 law3 Tryd.underlying109 (by unfold maxLen; omega) (key3 10 (by decide) (by decide)) (show pE (.agg #[.int .i64 2, .int .i64 0]) = some (pD (2, 0), []) from rfl)
  obtain ⟨w11, r11, m11, g11⟩ := World.ownsMap.update m10 law3 Tryd.underlying109 (by unfold maxLen; omega) (key3 11 (by decide) (by decide)) (show pE (.agg #[.int .i64 1, .int .i64 1]) = some (pD (1, 1), []) from rfl)
  obtain ⟨w12, r12, m12, g12⟩ := World.ownsMap.update m11 law3 Tryd.underlying109 (by unfold maxLen; omega) (key3 12 (by decide) (by decide)) (show pE (.agg #[.int .i64 0, .int .i64 1]) = some (pD (0, 1), []) from rfl)
  obtain ⟨w13, r13, m13, g13⟩ := World.ownsMap.update m12 law3 Tryd.underlying109 (by unfold maxLen; omega) (key3 13 (by decide) (by decide)) (show pE (.agg #[.int .i64 1, .int .i64 1]) = some (pD (1, 1), []) from rfl)
  obtain ⟨w14, r14, m14, g14⟩ := World.ownsMap.update m13 law3 Tryd.underlying109 (by unfold maxLen; omega) (key3 14 (by decide) (by decide)) (show pE (.agg #[.int .i64 1, .int .i64 0]) = some (pD (1, 0), []) from rfl)
  obtain ⟨w15, r15, m15, g15⟩ := World.ownsMap.update m14 law3 Tryd.underlying109 (by unfold maxLen; omega) (key3 15 (by decide) (by decide)) (show pE (.agg #[.int .i64 0, .int .i64 0]) = some (pD (0, 0), []) from rfl)
  obtain ⟨w16, r16, m16, g16⟩ := World.ownsMap.update m15 law3 Tryd.underlying109 (by unfold maxLen; omega) (key3 16 (by decide) (by decide)) (show pE (.agg #[.int .i64 1, .int .i64 0]) = some (pD (1, 0), []) from rfl)
  obtain ⟨w17, r17, m17, g17⟩ := World.ownsMap.update m16 law3 Tryd.underlying109 (by unfold maxLen; omega) (key3 18 (by decide) (by decide)) (show pE (.agg #[.int .i64 1, .int .i64 0]) = some (pD (1, 0), []) from rfl)
  obtain ⟨w18, r18, m18, g18⟩ := World.ownsMap.update m17 law3 Tryd.underlying109 (by unfold maxLen; omega) (key3 19 (by decide) (by decide)) (show pE (.agg #[.int .i64 1, .int .i64 0]) = some (pD (1, 0), []) from rfl)
  have HF : Hid (Fr nothing w w18) := by
    have F0 : Fr (fun j => j = w0.heap.size) (w0.alloc (.map #[] 0)) (w0.alloc (.map #[] 0)) := Fr.refl _ _
    have F1 := F0.grown g1 (fun k hk => .inl (by simpa using hk.symm))
    have F2 := F1.grown g2 (fun k hk => .inl (by simpa using hk.symm))
    have F3 := F2.grown g3 (fun k hk => .inl (by simpa using hk.symm))
    have F4 := F3.grown g4 (fun k hk => .inl (by simpa using hk.symm))
    have F5 := F4.grown g5 (fun k hk => .inl (by simpa using hk.symm))
    have F6 := F5.grown g6 (fun k hk => .inl (by simpa using hk.symm))
    have F7 := F6.grown g7 (fun k hk => .inl (by simpa using hk.symm))
    have F8 := F7.grown g8 (fun k hk => .inl (by simpa using hk.symm))
    have F9 := F8.grown g9 (fun k hk => .inl (by simpa using hk.symm))
    have F10 := F9.grown g10 (fun k hk => .inl (by simpa using hk.symm))
    have F11 := F10.grown g11 (fun k hk => .inl (by simpa using hk.symm))
    have F12 := F11.grown g12 (fun k hk => .inl (by simpa using hk.symm))
    have F13 := F12.grown g13 (fun k hk => .inl (by simpa using hk.symm))
    have F14 := F13.grown g14 (fun k hk => .inl (by simpa using hk.symm))
    have F15 := F14.grown g15 (fun k hk => .inl (by simpa using hk.symm))
    have F16 := F15.grown g16 (fun k hk => .inl (by simpa using hk.symm))
    have F17 := F16.grown g17 (fun k hk => .inl (by simpa using hk.symm))
    have F18 := F17.grown g18 (fun k hk => .inl (by simpa using hk.symm))
    exact (hF0.alloc _).then F18 (fun k hk e => by omega)
  have hF0n : Fr nothing w0 w18 := by
    have F0 : Fr (fun j => j = w0.heap.size) (w0.alloc (.map #[] 0)) (w0.alloc (.map #[] 0)) := Fr.refl _ _
    have F1 := F0.grown g1 (fun k hk => .inl (by simpa using hk.symm))
    have F2 := F1.grown g2 (fun k hk => .inl (by simpa using hk.symm))
    have F3 := F2.grown g3 (fun k hk => .inl (by simpa using hk.symm))
    have F4 := F3.grown g4 (fun k hk => .inl (by simpa using hk.symm))
    have F5 := F4.grown g5 (fun k hk => .inl (by simpa using hk.symm))
    have F6 := F5.grown g6 (fun k hk => .inl (by simpa using hk.symm))
    have F7 := F6.grown g7 (fun k hk => .inl (by simpa using hk.symm))
    have F8 := F7.grown g8 (fun k hk => .inl (by simpa using hk.symm))
    have F9 := F8.grown g9 (fun k hk => .inl (by simpa using hk.symm))
    have F10 := F9.grown g10 (fun k hk => .inl (by simpa using hk.symm))
    have F11 := F10.grown g11 (fun k hk => .inl (by simpa using hk.symm))
    have F12 := F11.grown g12 (fun k hk => .inl (by simpa using hk.symm))
    have F13 := F12.grown g13 (fun k hk => .inl (by simpa using hk.symm))
    have F14 := F13.grown g14 (fun k hk => .inl (by simpa using hk.symm))
    have F15 := F14.grown g15 (fun k hk => .inl (by simpa using hk.symm))
    have F16 := F15.grown g16 (fun k hk => .inl (by simpa using hk.symm))
    have F17 := F16.grown g17 (fun k hk => .inl (by simpa using hk.symm))
    have F18 := F17.grown g18 (fun k hk => .inl (by simpa using hk.symm))
    exact ((Fr.refl nothing w0).alloc _).then F18 (fun k hk e => by omega)
  have hlk : (Instr.lookup 109 (.map (some w0.heap.size)) (.int .i64 i.op) false).run Tryd.prog w18 = .ok (pv (shapeC i)) w18 := by
    obtain ⟨v, ps, hrun, hv⟩ := World.ownsMap.lookup m18 law3 Tryd.underlying109 (zeroA2 w18) (pE_pv (0, 0)) (key3 i.op h0 h1)
    have hv' : pE v = some (pD (shapeC i), ps) := by
      rw [e]
      rw [← PD_at]
      exact hv
    rw [hrun, pE_inv hv']
  obtain ⟨sp, hsp⟩ : ∃ sp, shapeC i = sp := ⟨_, rfl⟩
  rw [hsp] at hlk ⊢
  have x0 := (hF0n.cell (p := ⟨w.heap.size, 0, none⟩) cl id).trans c0
  have xl := Nat.lt_of_lt_of_le cl hF0n.size
  have hm2 := made_cells (Fr.refl nothing (w18.alloc (.cells #[.int .i64 sp.1, .int .i64 sp.2] 108))) id
  have hF3 : Hid (Fr nothing w (w18.alloc (.cells #[.int .i64 sp.1, .int .i64 sp.2] 108))) := HF.out.alloc _
  have y0 := hm2.1 0
  have y1 := hm2.1 1
  have yl := hm2.2.2
  have hw0' : w.alloc (.cells #[.int .i64 i.op, .int .i64 i.a, .int .i64 i.b] 45) = w0 := hw0.symm
  clear hF0 hc e HF hF0n hm2 s1 hw0 m0 m1 m2 m3 m4 m5 m6 m7 m8 m9 m10 m11 m12 m13 m14 m15 m16 m17 m18 g1 g2 g3 g4 g5 g6 g7 g8 g9 g10 g11 g12 g13 g14 g15 g16 g17 g18
  go_enter Tryd.func49, Tryd.ntmps49
  go_wp2
  refine wp_region_held_drew (S := fun w' => w'.cell? ⟨w18.heap.size, 0, none⟩ = some (.int .i64 sp.1) ∧ w'.cell? ⟨w18.heap.size, 1, none⟩ = some (.int .i64 sp.2)) (by kernel_rfl) ⟨y0, y1⟩ (fun hHeld => ?_)
  refine wpAnyH_take (i := 0) (oi := { dst := some 33, op := Op.indexAddr 108 (Operand.tmp 4) (Operand.const (Value.int IntKind.i64 0)), type := 0, pos := "ref.go:15", after := #[], guard := none }) (v := ?v1) rfl (by kernel_rfl) (by kernel_rfl) (by kernel_rfl) (fun _ _ _ h => h) (Or.inl ⟨by rfl, ?hy1⟩) (by assumption) ?rest1
  case hy1 => (intro w hSw; (try dsimp only at hSw); obtain ⟨hS1, hS2⟩ := hSw; go_simp; try with_reducible rfl)
  try simp only [Act.put, List.setIfInBounds_toArray, List.set_cons_zero, List.set_cons_succ]
  refine wpAnyH_take (i := 1) (oi := { dst := some 34, op := Op.load 3 (Operand.tmp 33), type := 3, pos := "ref.go:15", after := #[{ on := 0, ground := Ground.data }], guard := none }) (v := ?v2) rfl (by kernel_rfl) (by kernel_rfl) (by kernel_rfl) (fun _ _ _ h => h) (Or.inl ⟨by rfl, ?hy2⟩) (by assumption) ?rest2
  case hy2 => (intro w hSw; (try dsimp only at hSw); obtain ⟨hS1, hS2⟩ := hSw; go_simp; try with_reducible rfl)
  try simp only [Act.put, List.setIfInBounds_toArray, List.set_cons_zero, List.set_cons_succ]
  refine wpAnyH_take (i := 2) (oi := { dst := some 35, op := Op.indexAddr 108 (Operand.tmp 4) (Operand.const (Value.int IntKind.i64 1)), type := 0, pos := "ref.go:15", after := #[{ on := 4, ground := Ground.gcOnly Departure.lateStores }], guard := none }) (v := ?v3) rfl (by kernel_rfl) (by kernel_rfl) (by kernel_rfl) (fun _ _ _ h => h) (Or.inl ⟨by rfl, ?hy3⟩) (by assumption) ?rest3
  case hy3 => (intro w hSw; (try dsimp only at hSw); obtain ⟨hS1, hS2⟩ := hSw; go_simp; try with_reducible rfl)
  try simp only [Act.put, List.setIfInBounds_toArray, List.set_cons_zero, List.set_cons_succ]
  refine wpAnyH_take (i := 3) (oi := { dst := some 36, op := Op.load 3 (Operand.tmp 35), type := 3, pos := "ref.go:15", after := #[{ on := 2, ground := Ground.data }, { on := 4, ground := Ground.gcOnly Departure.lateStores }], guard := none }) (v := ?v4) rfl (by kernel_rfl) (by kernel_rfl) (by kernel_rfl) (fun _ _ _ h => h) (Or.inl ⟨by rfl, ?hy4⟩) (by assumption) ?rest4
  case hy4 => (intro w hSw; (try dsimp only at hSw); obtain ⟨hS1, hS2⟩ := hSw; go_simp; try with_reducible rfl)
  try simp only [Act.put, List.setIfInBounds_toArray, List.set_cons_zero, List.set_cons_succ]
  refine wpAnyH_take (i := 4) (oi := { dst := some 2, op := Op.assign (Operand.tmp 34), type := 3, pos := "ref.go:15", after := #[{ on := 1, ground := Ground.data }, { on := 0, ground := Ground.phase }, { on := 1, ground := Ground.phase }, { on := 2, ground := Ground.textOnly Departure.lateStores }, { on := 3, ground := Ground.textOnly Departure.lateStores }], guard := none }) (v := ?v5) rfl (by kernel_rfl) (by kernel_rfl) (by kernel_rfl) (fun _ _ _ h => h) (Or.inl ⟨by rfl, ?hy5⟩) (by assumption) ?rest5
  case hy5 => (intro w hSw; (try dsimp only at hSw); obtain ⟨hS1, hS2⟩ := hSw; go_simp; try with_reducible rfl)
  try simp only [Act.put, List.setIfInBounds_toArray, List.set_cons_zero, List.set_cons_succ]
  refine wpAnyH_take (i := 5) (oi := { dst := some 3, op := Op.assign (Operand.tmp 36), type := 3, pos := "ref.go:15", after := #[{ on := 3, ground := Ground.data }, { on := 4, ground := Ground.chain }, { on := 0, ground := Ground.phase }, { on := 1, ground := Ground.phase }, { on := 2, ground := Ground.phase }, { on := 3, ground := Ground.phase }, { on := 4, ground := Ground.phase }], guard := none }) (v := ?v6) rfl (by kernel_rfl) (by kernel_rfl) (by kernel_rfl) (fun _ _ _ h => h) (Or.inl ⟨by rfl, ?hy6⟩) (by assumption) ?rest6
  case hy6 => (intro w hSw; (try dsimp only at hSw); obtain ⟨hS1, hS2⟩ := hSw; go_simp; try with_reducible rfl)
  try simp only [Act.put, List.setIfInBounds_toArray, List.set_cons_zero, List.set_cons_succ]
  refine wpAnyH_done (by kernel_rfl) ?_ _
  go_wp2_with fail
  exact bodyPost_ret (v := .tuple #[.int .i64 sp.1, .int .i64 sp.2]) (by simp [results, Tryd.results49, go_sem]) rfl ⟨rfl, hF3.out.drew⟩
end Go.Proofs.YtkmdamljhagogaaDoor
end
