/- RExpr; RSts1. -/
import Derived.Test.YtpemfikdmkmgbaaDoorPartB16
section
/- The document's own answer: code of an expression. -/
set_option maxHeartbeats 0
set_option maxRecDepth 100000
namespace Go.Proofs.YtpemfikdmkmgbaaDoor
open Go Go.RowKit
/-- The names' map. -/
structure AtOk (ab : Nat) (E : Bs → Int) (nm : List Bs) (T : Nat → Prop) (w : World) : Prop where
  m : ∃ A, SI ab A w ∧ ∀ t ∈ nm, (A.f t).getD 0 = E t
  t : ¬ T ab
theorem AtOk.fr {ab : Nat} {E : Bs → Int} {nm : List Bs} {T T' S : Nat → Prop} {w w' : World} (h : AtOk ab E nm T w) (hf : Fr S w w') (hs : ¬ S ab) (ht : ¬ T' ab) : AtOk ab E nm T' w' := by
  obtain ⟨A, a1, a2⟩ := h.m
  exact ⟨⟨A, a1.fr hf hs, a2⟩, ht⟩
theorem AtOk.lt {ab : Nat} {E : Bs → Int} {nm : List Bs} {T : Nat → Prop} {w : World} (h : AtOk ab E nm T w) : ab < w.heap.size := by
  obtain ⟨A, a1, _⟩ := h.m
  exact a1.lt
/-- The functions' names. -/
def FnNames (c : Rk) (l : List Fn) : Prop := c.rs.length = l.length ∧ ∀ (i : Nat) (r : RawF) (f : Fn), c.rs[i]? = some r → l[i]? = some f → r.t = f.t
abbrev HasN (l : List Fn) : Bs → Nat → Prop := fun t _ => ∃ f ∈ l, f.t = t
abbrev gOf (l : List Fn) : Bs → Int := idxG l 0 (fun _ => 0)
mutual
def exKd : Ex → Prop
  | .mk k _ _ a => 1 ≤ k ∧ k ≤ 11 ∧ exsKd a
def exsKd : List Ex → Prop
  | [] => True
  | x :: l => exKd x ∧ exsKd l
end
theorem exsKd_mem : ∀ {l : List Ex}, exsKd l → ∀ x ∈ l, exKd x
  | y :: l, h, x, hx => by
    rw [exsKd] at h
    rcases List.mem_cons.1 hx with rfl | hx
    · exact h.1
    · exact exsKd_mem h.2 x hx
/-- What an expression's code is called for. -/
def XP (c : Rk) (T : Nat → Prop) (w : World) (v : Nat) (R : XR) (e : Ending) (w' : World) : Prop :=
  ∃ (q : Slc) (T' : Nat → Prop), e = .returned (.slice q.a q.n q.c) ∧ OwnI w.heap.size q R.ins w' ∧ RP c T w v R.ws T' w' ∧ ∀ b, q.v.ownBlock = some b → ¬ T' b
def REx (l : List Fn) (x : Ex) : Prop := ∀ (c : Rk) (T : Nat → Prop) (v : Nat) (ws : List Bs) (E : Bs → Int) (nm : List Bs) (ab : Nat) (r : RawE) (w : World), RI c T v ws w → FnNames c l → AtOk ab E nm T w → ExOk w (ap T w) r x → exU (HasN l) nm x → exN x ≤ 100000 → ws.length + exN x ≤ 100000 → ExSh x → exKd x →
  Calls Tryd.prog 59 #[.pointer (some ⟨c.mb, 0, none⟩), ev r, .map (some ab)] w (XP c T w v (exK (gOf l) E x ws))
theorem idxG_snoc : ∀ (l : List Fn) (f : Fn) (i : Nat) (G : Bs → Int), idxG (l ++ [f]) i G = upd (idxG l i G) f.t (i + l.length : Nat)
  | [], f, i, G => rfl
  | g :: l, f, i, G => by
    rw [List.cons_append, idxG, idxG, idxG_snoc l f (i + 1) _]
    congr 1
    simp only [List.length_cons]
    omega
/-- The last instruction is put behind. -/
theorem xp_end {c : Rk} {T T' : Nat → Prop} {w wv : World} {v : Nat} {ws : List Bs} {q : Slc} {is : List In} (hO : OwnI w.heap.size q is wv) (hRP : RP c T w v ws T' wv) (hq : ∀ b, q.v.ownBlock = some b → ¬ T' b) (hfl : ∀ b, c.fs.v.ownBlock = some b → b < w.heap.size) (x : In) (hl : is.length ≤ 200000) :
    ∃ (q2 : Slc) (w5 : World), (Builtin.append_ #[52, 52] 52 #[.slice q.a q.n q.c, .slice (some ⟨wv.heap.size, 0, none⟩) 1 1]).run Tryd.prog (wv.alloc (.cells #[.int .i64 x.op, .int .i64 x.a, .int .i64 x.b] 59)) = .ok (.slice q2.a q2.n q2.c) w5 ∧ XP c T w v ⟨is ++ [x], ws⟩ (.returned (.slice q2.a q2.n q2.c)) w5 := by
  have hF : Fr nothing wv (wv.alloc (.cells #[.int .i64 x.op, .int .i64 x.a, .int .i64 x.b] 59)) := (Fr.refl _ _).alloc _
  obtain ⟨q2, w5, hrun, own5, hF5, hat5⟩ := (hO.fr hF (fun _ _ => id)).app (x := ⟨some ⟨wv.heap.size, 0, none⟩, 1, 1⟩) (sl_litI wv x) (Nat.le_trans hRP.2.1.size hF.size) (by simp only [List.length_singleton]; omega)
  obtain ⟨k1, k2, k3⟩ := hRP
  refine ⟨q2, w5, hrun, q2, T', rfl, own5, ⟨(k1.new hF).fr hF5 (fun k hk e => hq k e hk) (fun b hb e => ?_), (k2.trans (hF.mono (fun _ _ e => e.elim))).then hF5 (fun k hk e => by have := (hO.lt e).1; omega), k3⟩, fun b hb e => ?_⟩
  · have h1 := (hO.lt e).1
    have := hfl b hb
    omega
  · rcases hat5 b hb with h | h
    · exact hq b h e
    · have := k1.tl b e; have := hF.size; omega
theorem exsK_snoc (G E : Bs → Int) : ∀ (l : List Ex) (x : Ex) (ws : List Bs), exsK G E (l ++ [x]) ws = ⟨(exsK G E l ws).ins ++ (exK G E x (exsK G E l ws).ws).ins, (exK G E x (exsK G E l ws).ws).ws⟩
  | [], x, ws => by rw [List.nil_append, exsK_cons, exsK_nil, exsK_nil]; simp
  | y :: l, x, ws => by rw [List.cons_append, exsK_cons, exsK_cons, exsK_snoc G E l x]; simp
theorem exsN_take_le (l : List Ex) (j : Nat) (hj : j < l.length) : exsN (l.take j) + exN l[j] ≤ exsN l := by
  induction l generalizing j with
  | nil => simp at hj
  | cons x l ih =>
    cases j with
    | zero => simp [exsN]
    | succ j =>
      have := ih j (by simpa using hj)
      rw [List.take_succ_cons, exsN, exsN]
      simp only [List.getElem_cons_succ]
      omega
def callI (l : List Fn) (t : Bs) (len : Nat) (j : Nat) : In := if (l.take j).any (fun f => decide (f.t = t)) then ⟨17, gOf (l.take j) t, len⟩ else ⟨0, 0, 0⟩
theorem callI_eq {l : List Fn} {t : Bs} {len j : Nat} {f : Fn} (hj : j < l.length) (hf : l[j] = f) (h : f.t = t) : callI l t len (j + 1) = ⟨17, (j : Nat), len⟩ := by
  unfold callI gOf
  rw [(List.take_append_getElem hj).symm, hf, idxG_snoc]
  have hl : (l.take j).length = j := by rw [List.length_take]; omega
  simp [h, upd, hl]
theorem callI_ne {l : List Fn} {t : Bs} {len j : Nat} {f : Fn} (hj : j < l.length) (hf : l[j] = f) (h : ¬ f.t = t) : callI l t len (j + 1) = callI l t len j := by
  unfold callI gOf
  rw [(List.take_append_getElem hj).symm, hf, idxG_snoc]
  have h' : ¬ t = f.t := fun e => h e.symm
  simp [h, upd, h']
theorem callI_all {l : List Fn} {t : Bs} {len : Nat} (h : ∃ f ∈ l, f.t = t) : callI l t len l.length = ⟨17, gOf l t, len⟩ := by
  unfold callI
  rw [List.take_length]
  obtain ⟨f, hf, e⟩ := h
  rw [if_pos]
  simp only [List.any_eq_true, decide_eq_true_eq]
  exact ⟨f, hf, e⟩
theorem idxOf_is {ws : List Bs} {t : Bs} {k : Nat} (h : ∀ i (hi : i < ws.length), i < k → ws[i] ≠ t) (hk : (k = ws.length) ∨ ∃ h : k < ws.length, ws[k] = t) : wnum ws t = k := by
  unfold wnum
  induction ws generalizing k with
  | nil =>
    rcases hk with e | ⟨h, _⟩
    · rw [e]; rfl
    · simp at h
  | cons x l ih =>
    rw [List.idxOf_cons]
    by_cases hx : x = t
    · have h0 : k = 0 := by
        rcases Nat.eq_zero_or_pos k with e | e
        · exact e
        · exact absurd hx (h 0 (by simp) e)
      simp [hx, h0]
    · have hk0 : k ≠ 0 := by
        rintro rfl
        rcases hk with e | ⟨h1, h2⟩
        · simp at e
        · exact hx h2
      obtain ⟨m, rfl⟩ : ∃ m, k = m + 1 := ⟨k - 1, by omega⟩
      have := ih (k := m) (fun i hi him => by have := h (i + 1) (by simp; omega) (by omega); simpa using this) (by
        rcases hk with e | ⟨h1, h2⟩
        · left; simp at e; omega
        · right; exact ⟨by simp at h1; omega, by simpa using h2⟩)
      have hxb : (x == t) = false := by simpa using hx
      simp [hxb, this]
theorem rexpr_step (l : List Fn) (k n : Int) (t : Bs) (a : List Ex) (ih : ∀ x ∈ a, REx l x) : REx l (.mk k n t a) := by
  intro c T v ws E nm ab r w hK hFN hAT hX hU hN hW hSh hKd
  rw [exKd] at hKd
  obtain ⟨rk, rn, rt, ⟨la, ln, lc⟩⟩ := r
  cases hX with
  | mk _ _ _ _ rs _ hS hP hl hE =>
  cases hSh with
  | mk hs1 hs2 hs3 =>
  obtain ⟨hln, hlm⟩ := sl_len hS
  simp only at hln
  rw [hl] at hln
  subst hln
  rw [exU] at hU
  rw [exN] at hN hW
  have hll : a.length ≤ 9223372036854775807 := by omega
  have hFA : Fr nothing w (w.alloc (eo ⟨k, n, t, ⟨la, a.length, lc⟩⟩)) := (Fr.refl _ _).alloc _
  have m0 := made_cells (Fr.refl nothing (w.alloc (eo ⟨k, n, t, ⟨la, a.length, lc⟩⟩))) id
  have hb : ¬ T w.heap.size := fun e => by have := hK.tl _ e; omega
  have hfl := hK.fl
  have HS := hide hS
  have HP := hide hP
  have HE := hide (show Each (ExOk w (ap T w)) rs a from ⟨hl, hE⟩)
  have HFA := hide hFA
  have HK := hide hK
  have HAT := hide hAT
  have HM0 := hide m0
  have HU := hide hU
  have HFN := hide hFN
  have HFL := hide hfl
  have HKD := hide hKd
  have HS1 := hide hs1
  clear hKd hs1
  clear hS hP hE hl hFA m0 hK hAT hU hFN hfl
  go_enter Tryd.func59, Tryd.ntmps59
  go_wp2
  obtain ⟨w2, hw2⟩ : ∃ w2, w2 = w.alloc (eo ⟨k, n, t, ⟨la, a.length, lc⟩⟩) := ⟨_, rfl⟩
  rw [← hw2] at HFA HM0
  rw [← hw2]
  clear hw2
  obtain ⟨bx, hbx⟩ : ∃ x, x = w.heap.size := ⟨_, rfl⟩
  rw [← hbx] at HM0 hb
  rw [← hbx]
  have HBX := hide hbx
  clear hbx
  go_loopw [17, 7, 9] (fun i o _ wr => ∃ (j : Nat) (q : Slc), j ≤ a.length ∧ i = .int .i64 j ∧ o = .slice q.a q.n q.c ∧ Hid (∃ T', OwnI w.heap.size q (exsK (gOf l) E (a.take j) ws).ins wr ∧ RP c T w v (exsK (gOf l) E (a.take j) ws).ws T' wr ∧ (∀ b, q.v.ownBlock = some b → ¬ T' b ∧ b ≠ bx) ∧ ¬ T' bx ∧ bx < wr.heap.size ∧ (∀ i, wr.cell? ⟨bx, i, none⟩ = w2.cell? ⟨bx, i, none⟩))) (fun i _ _ _ => a.length - (intOf i).toNat)
  case atStart => exact ⟨0, nilS, Nat.zero_le _, rfl, rfl, T, OwnI.nil _ _, .of_new HK.out HFA.out, fun b hb => (by cases hb), hb, HM0.out.2.2, fun _ => rfl⟩
  case round =>
    obtain ⟨j, q, hj, rfl, rfl, hR⟩ := hrel
    by_cases hjl : j < a.length
    · have hx : a[j]? = some a[j] := List.getElem?_eq_getElem hjl
      have hr : rs[j]? = some (rs[j]'(by rw [HE.out.1]; omega)) := List.getElem?_eq_getElem _
      have hxm : a[j] ∈ a := List.getElem_mem hjl
      have htk : a.take (j + 1) = a.take j ++ [a[j]] := (List.take_append_getElem hjl).symm
      have htn := exsN_take_le a j hjl
      generalize rs[j]'(by rw [HE.out.1]; omega) = r at hr
      generalize a[j] = x at hx hxm htk htn
      have hok := HE.out.2 j r x hr hx
      obtain ⟨g, o, hg, -, dg, p0, p1, p2, p3⟩ := sl_elem4 (s := ⟨la, a.length, lc⟩) HS.out hr
      simp only at hg
      subst hg
      obtain ⟨T', hO, ⟨k1, k2, k3⟩, hq, hbT, hbl, hbc⟩ := hR.out
      have hgT := (HP.out g rfl).1
      rw [← k2.cell (p := ⟨g, _, none⟩) dg hgT] at p0 p1 p2 p3
      have eg : g < wr.heap.size := Nat.lt_of_lt_of_le dg k2.size
      have hFB : Fr nothing wr (wr.alloc (eo r)) := (Fr.refl _ _).alloc _
      have hok2 : ExOk (wr.alloc (eo r)) (ap T' (wr.alloc (eo r))) r x := ex_stays _ _ nothing _ _ _ _ (ex_stays _ _ T _ _ _ _ hok k2 (fun k hk => hk.1) (ap_next k2 k3)) hFB (fun _ _ => id) (fun k hk => ⟨hk.1, Nat.lt_of_lt_of_le hk.2 hFB.size⟩)
      have hab : ¬ T' ab := fun e => (k3 _ e).elim HAT.out.t (fun h => by have := HAT.out.lt; omega)
      have hAT2 : AtOk ab E nm T' (wr.alloc (eo r)) := (HAT.out.fr k2 HAT.out.t hab).fr hFB id hab
      have hwl := exsK_ws (gOf l) E (a.take j) ws
      have HIH := hide (ih x hxm c T' v (exsK (gOf l) E (a.take j) ws).ws E nm ab r (wr.alloc (eo r)) (k1.new hFB) HFN.out hAT2 hok2 (exsU_mem HU.out.2.2 x hxm) (by omega) (by omega) (hs3 x hxm) (exsKd_mem HKD.out.2.2 x hxm))
      have HNX := hide (fun (q2 : Slc) (T2 : Nat → Prop) w3 (hO3 : OwnI (wr.alloc (eo r)).heap.size q2 (exK (gOf l) E x (exsK (gOf l) E (a.take j) ws).ws).ins w3) (hR3 : RP c T' (wr.alloc (eo r)) v (exK (gOf l) E x (exsK (gOf l) E (a.take j) ws).ws).ws T2 w3) (hq3 : ∀ b, q2.v.ownBlock = some b → ¬ T2 b) => (show ∃ q4 w4, (Builtin.append_ #[52, 52] 52 #[.slice q.a q.n q.c, .slice q2.a q2.n q2.c]).run Tryd.prog w3 = .ok (.slice q4.a q4.n q4.c) w4 ∧ ∃ T', OwnI w.heap.size q4 (exsK (gOf l) E (a.take (j + 1)) ws).ins w4 ∧ RP c T w v (exsK (gOf l) E (a.take (j + 1)) ws).ws T' w4 ∧ (∀ b, q4.v.ownBlock = some b → ¬ T' b ∧ b ≠ bx) ∧ ¬ T' bx ∧ bx < w4.heap.size ∧ (∀ i, w4.cell? ⟨bx, i, none⟩ = w2.cell? ⟨bx, i, none⟩) from by
        obtain ⟨c1, c2, c3⟩ := hR3
        have hqT : ∀ b, q.v.ownBlock = some b → ¬ T2 b := fun b hb e => (c3 b e).elim (hq b hb).1 (fun h => by have := (hO.lt hb).2; have := hFB.size; omega)
        have hO3' := (hO.fr hFB (fun _ _ => id)).fr c2 (fun b hb e => (hq b hb).1 e)
        have hl1 := exsK_len (gOf l) E (a.take j) ws
        have hl2 := exK_len (gOf l) E x (exsK (gOf l) E (a.take j) ws).ws
        obtain ⟨q4, w4, hrun, own4, hF4, hat4⟩ := hO3'.app (x := q2) hO3.sl (Nat.le_trans (Nat.le_trans k2.size hFB.size) c2.size) (by omega)
        have eR := exsK_snoc (gOf l) E (a.take j) x ws
        have hsz3 : wr.heap.size ≤ w3.heap.size := Nat.le_trans hFB.size c2.size
        have hbT2 : ¬ T2 bx := fun e => (c3 _ e).elim hbT (fun h => by have := hFB.size; omega)
        have hbq : ¬ q.v.ownBlock = some bx := fun e => (hq _ e).2 rfl
        refine ⟨q4, w4, hrun, T2, by rw [htk, eR]; exact own4, ?_, ?_, hbT2, Nat.lt_of_lt_of_le (Nat.lt_of_lt_of_le hbl hsz3) hF4.size, fun i => ?_⟩
        · rw [htk, eR]
          refine ⟨c1.fr hF4 (fun k hk e => hqT k e hk) (fun b hb e => by have := HFL.out b hb; have := (hO.lt e).1; omega), ((k2.trans (hFB.mono (fun _ _ e => e.elim))).then c2 (fun k hk e => (k3 k e).elim id (fun h => by omega))).then hF4 (fun k hk e => by have := (hO.lt e).1; omega), fun k hk => ?_⟩
          rcases c3 k hk with h | h
          · exact k3 k h
          · exact .inr (Nat.le_trans k2.size (Nat.le_trans hFB.size h))
        · intro b hb
          rcases hat4 b hb with h | h
          · exact ⟨hqT b h, (hq b h).2⟩
          · exact ⟨fun e => by have := c1.tl b e; omega, by omega⟩
        · rw [hF4.cell (p := ⟨bx, i, none⟩) (Nat.lt_of_lt_of_le hbl hsz3) hbq, c2.cell (p := ⟨bx, i, none⟩) (Nat.lt_of_lt_of_le hbl hFB.size) hbT, hFB.cell (p := ⟨bx, i, none⟩) hbl id]
          exact hbc i))
      clear hR hO k1 k2 k3 hq hbT hbl hbc hFB hok hok2 hab hAT2 hr hx
      obtain ⟨rk', rn', rt', rs4⟩ := r
      simp only at p0 p1 p2 p3
      go_wp2_with (first
        | (at_builtin; go_must (obtain ⟨q4, w4, hrun, h4⟩ := HNX.out q2 T2 w3 HO3.out HR3.out HQ3.out); refine wpList_run rfl _ _ 52 rfl _ _ rfl rfl hrun ?_; have H4 := hide h4; clear hrun h4)
        | (go_at_call 59; refine HIH.out.mono ?_; rintro e w3 ⟨q2, T2, rfl, hO3, hR3, hq3⟩; have HO3 := hide hO3; have HR3 := hide hR3; have HQ3 := hide hq3; clear hO3 hR3 hq3))
      go_roundw
      case rel => exact ⟨j + 1, q4, by omega, by go_num, rfl, H4.out⟩
      case measure => simp [intOf]; omega
    · have hje : j = a.length := by omega
      obtain ⟨T', hO, hRP, hq, hbT, hbl, hbc⟩ := hR.out
      rw [hje, List.take_length] at hO hRP
      have z0 := (hbc 0).trans (HM0.out.1 0)
      have z1 := (hbc 1).trans (HM0.out.1 1)
      have z2 := (hbc 2).trans (HM0.out.1 2)
      have z3 := (hbc 3).trans (HM0.out.1 3)
      have hql : (exsK (gOf l) E a ws).ins.length ≤ 200000 := by rw [exsK_len]; omega
      have hwsl := exsK_ws (gOf l) E a ws
      have hab : ¬ T' ab := fun e => (hRP.2.2 _ e).elim HAT.out.t (fun h => by have := HAT.out.lt; omega)
      have hAT := HAT.out.fr hRP.2.1 HAT.out.t hab
      obtain ⟨R, hRR⟩ : ∃ R, R = exsK (gOf l) E a ws := ⟨_, rfl⟩
      have HXK : Hid (exK (gOf l) E (.mk k n t a) ws = ⟨R.ins ++ [lastI (gOf l) E k n t a.length R.ws], lastW k t R.ws⟩) := by show exK _ _ _ _ = _; rw [exK_mk, hRR]
      rw [← hRR] at hO hRP hql hwsl
      clear hRR
      have HEND := hide (fun wv (hf : Fr nothing wr wv) (x : In) => xp_end (hO.fr hf (fun _ _ => id)) (show RP c T w v R.ws T' wv from ⟨hRP.1.new hf, hRP.2.1.trans (hf.mono (fun _ _ e => e.elim)), hRP.2.2⟩) (fun b hb => (hq b hb).1) HFL.out x hql)
      by_cases k1 : k = 1
      · subst k1
        obtain ⟨q2, w5, hrun, hXP⟩ := HEND.out (wr.alloc (.cells #[.int .i64 1, .int .i64 n, .int .i64 0] 59)) ((Fr.refl _ _).alloc _) ⟨1, n, 0⟩
        have HXP := hide hXP
        have sA : (wr.alloc (.cells #[.int .i64 1, .int .i64 n, .int .i64 0] 59)).heap.size = wr.heap.size + 1 := by simp
        rw [sA] at hrun
        clear hR hO hRP hq hbc hab hAT hXP sA hje
        go_wp2_with (at_builtin; go_must (refine wpList_run rfl _ _ 52 rfl _ _ rfl rfl hrun ?_))
        go_ret
        rw [HXK.out]
        exact HXP.out
      by_cases k4 : k = 4
      · subst k4
        obtain ⟨q2, w5, hrun, hXP⟩ := HEND.out (wr.alloc (.cells #[.int .i64 5, .int .i64 n, .int .i64 0] 59)) ((Fr.refl _ _).alloc _) ⟨5, n, 0⟩
        have HXP := hide hXP
        have sA : (wr.alloc (.cells #[.int .i64 5, .int .i64 n, .int .i64 0] 59)).heap.size = wr.heap.size + 1 := by simp
        rw [sA] at hrun
        clear hR hO hRP hq hbc hab hAT hXP sA hje k1
        go_wp2_with (at_builtin; go_must (refine wpList_run rfl _ _ 52 rfl _ _ rfl rfl hrun ?_))
        go_ret
        rw [HXK.out]
        exact HXP.out
      by_cases k3 : k = 3
      · subst k3
        obtain ⟨q2, w5, hrun, hXP⟩ := HEND.out (wr.alloc (.cells #[.int .i64 3, .int .i64 (E t), .int .i64 0] 59)) ((Fr.refl _ _).alloc _) ⟨3, E t, 0⟩
        have HXP := hide hXP
        have sA : (wr.alloc (.cells #[.int .i64 3, .int .i64 (E t), .int .i64 0] 59)).heap.size = wr.heap.size + 1 := by simp
        rw [sA] at hrun
        obtain ⟨A, a1, a2⟩ := hAT.m
        have hlk := (a1.fr ((Fr.refl nothing wr).alloc (.cells #[.int .i64 0, .int .i64 0, .int .i64 0] 59)) id).look t (by omega)
        rw [a2 t (HU.out.1 rfl)] at hlk
        clear hR hO hRP hq hbc hab hAT hXP sA hje k1 k4 a1 a2
        go_wp2_with (at_builtin; go_must (refine wpList_run rfl _ _ 52 rfl _ _ rfl rfl hrun ?_))
        go_ret
        rw [HXK.out]
        exact HXP.out
      by_cases k2 : k = 2
      · subst k2
        obtain ⟨⟨sa, sn, sc⟩, r1, r2, r3⟩ := hRP.1.row
        have hsn : sn = R.ws.length := by
          rcases r2.2 with ⟨e, e2⟩ | ⟨g, cap, cur, e, _⟩
          · simp only [Slc.v, Value.slice.injEq] at e; omega
          · simp only [Slc.v, Value.slice.injEq] at e; exact e.2.1
        subst hsn
        replace r1 : wr.cell? ⟨c.mb, 1, none⟩ = some (.slice sa R.ws.length sc) := r1
        have hFI : Fr nothing wr (wr.alloc (.cells #[.int .i64 0, .int .i64 0, .int .i64 0] 59)) := (Fr.refl _ _).alloc _
        have hci := made_cells (Fr.refl nothing (wr.alloc (.cells #[.int .i64 0, .int .i64 0, .int .i64 0] 59))) id
        have hwm : R.ws.length ≤ 100000 := by omega
        have HSL := hide (sl_of_owns encN_len r2)
        have hml := hRP.1.ml
        have HRP := hide hRP
        have HOO := hide hO
        have HQ := hide hq
        have HFI := hide hFI
        have HCI := hide hci
        have HR2 := hide r2
        have HR3 := hide r3
        clear hR hO hRP hq hbc hab hAT hje hci r2 r3 k1 k3 k4
        go_wp2_with fail
        have x2 := (hFI.cell (p := ⟨bx, 2, none⟩) hbl id).trans z2
        have xl := Nat.lt_of_lt_of_le hbl hFI.size
        have y1 := (hFI.cell (p := ⟨c.mb, 1, none⟩) hml id).trans r1
        have yl := Nat.lt_of_lt_of_le hml hFI.size
        clear hFI
        generalize wr.alloc (.cells #[.int .i64 0, .int .i64 0, .int .i64 0] 59) = wi at *
        have hbi : ¬ bx = wr.heap.size := by omega
        obtain ⟨ib, hib⟩ : ∃ x, x = wr.heap.size := ⟨_, rfl⟩
        have HEND2 := hide (fun wv (hf : Fr (fun k => k = ib) wi wv) (x : In) => HEND.out wv (HFI.out.then hf (fun k hk e => by omega)) x)
        rw [← hib] at HCI hbi
        rw [← hib]
        have HIB := hide hib
        clear hib
        go_loopw [11] (fun i wv => ∃ (kk : Nat), kk ≤ R.ws.length ∧ i = .int .i64 kk ∧ Hid (Fr nothing wi wv ∧ ∀ i (hi : i < R.ws.length), i < kk → R.ws[i] ≠ t)) (fun i _ => R.ws.length - (intOf i).toNat)
        case atStart => exact ⟨0, Nat.zero_le _, rfl, Fr.refl _ _, fun i hi h => by omega⟩
        case round =>
          obtain ⟨kk, hkk, rfl, hR⟩ := hrel
          obtain ⟨hF, hno⟩ := hR.out
          have u2 := (hF.cell (p := ⟨bx, 2, none⟩) xl id).trans x2
          have ul := Nat.lt_of_lt_of_le xl hF.size
          have v1 := (hF.cell (p := ⟨c.mb, 1, none⟩) yl id).trans y1
          have vl := Nat.lt_of_lt_of_le yl hF.size
          by_cases hlt : kk < R.ws.length
          · have hx : R.ws[kk]? = some R.ws[kk] := List.getElem?_eq_getElem hlt
            have hnn := hno
            generalize hxe : R.ws[kk] = x at hx
            obtain ⟨g, o, hg, dg, p0⟩ := sl_elem1 (s := ⟨sa, R.ws.length, sc⟩) HSL.out hx
            simp only at hg
            subst hg
            have hF0 := HFI.out.trans hF
            rw [← hF0.cell (p := ⟨g, _, none⟩) dg id] at p0
            have eg : g < wr.heap.size := Nat.lt_of_lt_of_le dg hF0.size
            have i1 : (0 : Int) ≤ (kk : Nat) := by omega
            have i2 : ((kk : Nat) : Int) < (R.ws.length : Nat) := by omega
            by_cases hxt : x = t
            · subst hxt
              have hq := bs_same x
              have hwn : wnum R.ws x = kk := idxOf_is hno (.inr ⟨hlt, hxe⟩)
              have hct : R.ws.contains x = true := by
                have : x ∈ R.ws := List.mem_of_getElem? hx
                simpa using this
              have i0 := (hF.cell (p := ⟨ib, 0, none⟩) HCI.out.2.2 id).trans (HCI.out.1 0)
              have i1' := (hF.cell (p := ⟨ib, 1, none⟩) HCI.out.2.2 id).trans (HCI.out.1 1)
              have i2' := (hF.cell (p := ⟨ib, 2, none⟩) HCI.out.2.2 id).trans (HCI.out.1 2)
              have if0 := (hF.frozen (p := ⟨ib, 0, none⟩) HCI.out.2.2 id).trans (HCI.out.2.1 0)
              have if1 := (hF.frozen (p := ⟨ib, 1, none⟩) HCI.out.2.2 id).trans (HCI.out.2.1 1)
              have if2 := (hF.frozen (p := ⟨ib, 2, none⟩) HCI.out.2.2 id).trans (HCI.out.2.1 2)
              have il := Nat.lt_of_lt_of_le HCI.out.2.2 hF.size
              obtain ⟨w6, hw6, g0, g1, g2, hF6⟩ := set3 (.int .i64 2) (.int .i64 (kk : Nat)) (.int .i64 0) i0 i1' i2'
              have hF06 : Fr (fun k => k = ib) wi w6.drew := ((hF.mono (fun _ _ e => e.elim)).trans hF6).drew
              obtain ⟨q2, w5, hrun, hXP⟩ := HEND2.out w6.drew hF06 ⟨2, (kk : Nat), 0⟩
              have HXP := hide hXP
              have HXK2 : Hid (exK (gOf l) E (.mk 2 n x a) ws = ⟨R.ins ++ [⟨2, (kk : Nat), 0⟩], R.ws⟩) := by
                show exK _ _ _ _ = _
                rw [HXK.out]
                unfold lastI lastW
                simp [hwn, wput_in hct]
              have hne : ¬ ((kk : Nat) : Int) = (R.ws.length : Nat) := by omega
              have hneb : ((((kk : Nat) : Int)) == ((R.ws.length : Nat) : Int)) = false := by simp; omega
              have s6 : w6.drew.heap.size = wr.heap.size := by rw [hw6]; simp [World.setCell]
              rw [s6] at hrun
              rw [hw6] at hrun
              replace hrun : (Builtin.append_ #[52, 52] 52 #[.slice q.a q.n q.c, .slice (some ⟨wr.heap.size, 0, none⟩) 1 1]).run Tryd.prog ((((wr.setCell ⟨ib, 0, none⟩ (.int .i64 2)).setCell ⟨ib, 1, none⟩ (.int .i64 (kk : Nat))).setCell ⟨ib, 2, none⟩ (.int .i64 0)).alloc (.cells #[.int .i64 2, .int .i64 (kk : Nat), .int .i64 0] 59)).drew = .ok (.slice q2.a q2.n q2.c) w5 := hrun
              clear hR hF hno hnn hF0 hx hxe hwn hct hXP hF06 hF6 hw6 s6 g0 g1 g2
              go_wp2_with fail
              go_region
              go_wp2_with (at_builtin; go_must (refine wpList_run rfl _ _ 52 rfl _ _ rfl rfl hrun ?_))
              go_ret
              rw [HXK2.out]
              exact HXP.out
            · have hq := bs_ne hxt
              have HNX := hide (show Fr nothing wi wr.drew ∧ ∀ i (hi : i < R.ws.length), i < kk + 1 → R.ws[i] ≠ t from ⟨hF.drew, fun i hi h => by
                by_cases e : i = kk
                · subst e; rw [hxe]; exact hxt
                · exact hno i hi (by omega)⟩)
              clear hR hF hno hnn hF0 hx hxe
              go_wp2_with fail
              go_region
              go_wp2_with fail
              go_roundw
              case rel => exact ⟨kk + 1, by omega, by go_num, HNX.out⟩
              case measure => simp [intOf]; omega
          · have hke : kk = R.ws.length := by omega
            subst hke
            have hwn : wnum R.ws t = R.ws.length := idxOf_is hno (.inl rfl)
            have hct : R.ws.contains t = false := by
              rw [Bool.eq_false_iff]
              intro h
              have hm : t ∈ R.ws := by simpa using h
              obtain ⟨i, hi, e⟩ := List.getElem_of_mem hm
              exact hno i hi hi e
            have i0 := (hF.cell (p := ⟨ib, 0, none⟩) HCI.out.2.2 id).trans (HCI.out.1 0)
            have i1' := (hF.cell (p := ⟨ib, 1, none⟩) HCI.out.2.2 id).trans (HCI.out.1 1)
            have i2' := (hF.cell (p := ⟨ib, 2, none⟩) HCI.out.2.2 id).trans (HCI.out.1 2)
            have if0 := (hF.frozen (p := ⟨ib, 0, none⟩) HCI.out.2.2 id).trans (HCI.out.2.1 0)
            have if1 := (hF.frozen (p := ⟨ib, 1, none⟩) HCI.out.2.2 id).trans (HCI.out.2.1 1)
            have if2 := (hF.frozen (p := ⟨ib, 2, none⟩) HCI.out.2.2 id).trans (HCI.out.2.1 2)
            have il := Nat.lt_of_lt_of_le HCI.out.2.2 hF.size
            have hqb : ((((R.ws.length : Nat) : Int)) == ((R.ws.length : Nat) : Int)) = true := by simp
            have HFF := hide hF
            clear hR hF hno
            go_wp2_with fail
            go_region
            go_wp2_with fail
            have F9 : Fr nothing wi wr.drew := HFF.out.drew
            have F09 := HFI.out.trans F9
            obtain ⟨w9, hw9⟩ : ∃ w9, w9 = wr.drew := ⟨_, rfl⟩
            replace i0 : wr.drew.cell? ⟨ib, 0, none⟩ = _ := i0
            replace i1' : wr.drew.cell? ⟨ib, 1, none⟩ = _ := i1'
            replace i2' : wr.drew.cell? ⟨ib, 2, none⟩ = _ := i2'
            replace if0 : wr.drew.frozen? ⟨ib, 0, none⟩ = _ := if0
            replace if1 : wr.drew.frozen? ⟨ib, 1, none⟩ = _ := if1
            replace if2 : wr.drew.frozen? ⟨ib, 2, none⟩ = _ := if2
            replace il : ib < wr.drew.heap.size := il
            replace u2 : wr.drew.cell? ⟨bx, 2, none⟩ = _ := u2
            replace ul : bx < wr.drew.heap.size := ul
            replace v1 : wr.drew.cell? ⟨c.mb, 1, none⟩ = _ := v1
            replace vl : c.mb < wr.drew.heap.size := vl
            rw [← hw9] at F9 F09 i0 i1' i2' if0 if1 if2 il u2 ul v1 vl
            rw [← hw9]
            clear hw9 HFF
            have hRI := HRP.out.1.new F09
            have HRI := hide hRI
            have HO9 := hide (owns_fr HR2.out F09 (fun _ _ => id))
            have hvz := hRI.fz 1
            have hbl9 := hRI.bl
            have HTL := hide hRI.tl
            obtain ⟨jj, hj0, hy0, hy1, hy2⟩ := info_parts sizeStr
            have nmb : ∀ b, (Value.slice sa R.ws.length sc).ownBlock = some b → b ≠ c.mb := fun b hb => (HR3.out b hb).2
            have nbx : ∀ b, (Value.slice sa R.ws.length sc).ownBlock = some b → b ≠ bx := fun b hb e => hbT (e ▸ (HR3.out b hb).1)
            have nib : ∀ b, (Value.slice sa R.ws.length sc).ownBlock = some b → b ≠ ib := fun b hb e => by have h1 := HRP.out.1.tl b (HR3.out b hb).1; have := HIB.out; omega
            have NMB := hide nmb
            have NBX := hide nbx
            have NIB := hide nib
            have HF09 := hide F09
            clear hRI F09 nmb nbx nib
            refine wp_region_T (S := fun w' => w'.cell? ⟨c.mb, 1, none⟩ = some (.slice sa R.ws.length sc) ∧ w'.cell? ⟨bx, 2, none⟩ = some (.string (bs t))) (by kernel_rfl) [11] ?_ (fun hHeld => ?_)
            · exact ⟨v1, u2⟩
            refine wpAnyT_take (i := 0) (oi := { dst := some 72, op := Op.move (Operand.tmp 0), type := 116, pos := "ref.go:656", after := #[], guard := none }) (v := ?v1) rfl (by kernel_rfl) (by kernel_rfl) (by kernel_rfl) (by kernel_rfl) (by kernel_rfl) (fun _ _ _ h => h) (Or.inl ⟨by rfl, ?hy1⟩) (by assumption) ?rest1
            case hy1 => (intro w hSw; (try dsimp only at hSw); obtain ⟨hS1, hS2⟩ := hSw; go_simp; try with_reducible rfl)
            try simp only [Act.put, List.setIfInBounds_toArray, List.set_cons_zero, List.set_cons_succ]
            refine wpAnyT_take (i := 1) (oi := { dst := some 73, op := Op.move (Operand.tmp 0), type := 116, pos := "ref.go:656", after := #[], guard := none }) (v := ?v2) rfl (by kernel_rfl) (by kernel_rfl) (by kernel_rfl) (by kernel_rfl) (by kernel_rfl) (fun _ _ _ h => h) (Or.inl ⟨by rfl, ?hy2⟩) (by assumption) ?rest2
            case hy2 => (intro w hSw; (try dsimp only at hSw); obtain ⟨hS1, hS2⟩ := hSw; go_simp; try with_reducible rfl)
            try simp only [Act.put, List.setIfInBounds_toArray, List.set_cons_zero, List.set_cons_succ]
            refine wpAnyT_take (i := 2) (oi := { dst := some 74, op := Op.nilCheck (Operand.tmp 73), type := 0, pos := "ref.go:656", after := #[{ on := 1, ground := Ground.data }], guard := none }) (v := ?v3) rfl (by kernel_rfl) (by kernel_rfl) (by kernel_rfl) (by kernel_rfl) (by kernel_rfl) (fun _ _ _ h => h) (Or.inl ⟨by rfl, ?hy3⟩) (by assumption) ?rest3
            case hy3 => (intro w hSw; (try dsimp only at hSw); obtain ⟨hS1, hS2⟩ := hSw; go_simp; try with_reducible rfl)
            try simp only [Act.put, List.setIfInBounds_toArray, List.set_cons_zero, List.set_cons_succ]
            refine wpAnyT_take (i := 3) (oi := { dst := some 75, op := Op.fieldAddr 118 (Operand.tmp 74) 1, type := 0, pos := "ref.go:656", after := #[{ on := 2, ground := Ground.data }], guard := none }) (v := ?v4) rfl (by kernel_rfl) (by kernel_rfl) (by kernel_rfl) (by kernel_rfl) (by kernel_rfl) (fun _ _ _ h => h) (Or.inl ⟨by rfl, ?hy4⟩) (by assumption) ?rest4
            case hy4 => (intro w hSw; (try dsimp only at hSw); obtain ⟨hS1, hS2⟩ := hSw; go_simp; try with_reducible rfl)
            try simp only [Act.put, List.setIfInBounds_toArray, List.set_cons_zero, List.set_cons_succ]
            refine wpAnyT_take (i := 4) (oi := { dst := some 76, op := Op.load 23 (Operand.tmp 75), type := 23, pos := "ref.go:656", after := #[{ on := 3, ground := Ground.data }], guard := none }) (v := ?v5) rfl (by kernel_rfl) (by kernel_rfl) (by kernel_rfl) (by kernel_rfl) (by kernel_rfl) (fun _ _ _ h => h) (Or.inl ⟨by rfl, ?hy5⟩) (by assumption) ?rest5
            case hy5 => (intro w hSw; (try dsimp only at hSw); obtain ⟨hS1, hS2⟩ := hSw; go_simp; try with_reducible rfl)
            try simp only [Act.put, List.setIfInBounds_toArray, List.set_cons_zero, List.set_cons_succ]
            refine wpAnyT_take (i := 5) (oi := { dst := some 77, op := Op.fieldAddr 131 (Operand.tmp 4) 2, type := 0, pos := "ref.go:656", after := #[], guard := none }) (v := ?v6) rfl (by kernel_rfl) (by kernel_rfl) (by kernel_rfl) (by kernel_rfl) (by kernel_rfl) (fun _ _ _ h => h) (Or.inl ⟨by rfl, ?hy6⟩) (by assumption) ?rest6
            case hy6 => (intro w hSw; (try dsimp only at hSw); obtain ⟨hS1, hS2⟩ := hSw; go_simp; try with_reducible rfl)
            try simp only [Act.put, List.setIfInBounds_toArray, List.set_cons_zero, List.set_cons_succ]
            refine wpAnyT_take (i := 6) (oi := { dst := some 78, op := Op.load 9 (Operand.tmp 77), type := 9, pos := "ref.go:656", after := #[{ on := 5, ground := Ground.data }], guard := none }) (v := ?v7) rfl (by kernel_rfl) (by kernel_rfl) (by kernel_rfl) (by kernel_rfl) (by kernel_rfl) (fun _ _ _ h => h) (Or.inl ⟨by rfl, ?hy7⟩) (by assumption) ?rest7
            case hy7 => (intro w hSw; (try dsimp only at hSw); obtain ⟨hS1, hS2⟩ := hSw; go_simp; try with_reducible rfl)
            try simp only [Act.put, List.setIfInBounds_toArray, List.set_cons_zero, List.set_cons_succ]
            have FA : Fr nothing w9 (w9.alloc (.cells #[.string (bs t)] 9)).drew := ((Fr.refl nothing w9).alloc _).drew
            have sA : (w9.alloc (.cells #[.string (bs t)] 9)).drew.heap.size = w9.heap.size + 1 := by show (w9.alloc (.cells #[.string (bs t)] 9)).heap.size = _; simp
            have hHeldA := And.intro ((FA.cell (p := ⟨c.mb, 1, none⟩) vl id).trans v1) ((FA.cell (p := ⟨bx, 2, none⟩) ul id).trans u2)
            refine wpAnyT_ready (rs := [7]) (by kernel_rfl) (by simp) ?_
            refine AllReadyT.cons (o := { dst := some 79, op := Op.buildSlice 23 1 #[(0, Operand.tmp 78)], type := 23, pos := "ref.go:656", after := #[{ on := 6, ground := Ground.data }], guard := none }) rfl (fun K hK => ?_) AllReadyT.nil
            go_simp
            refine hK.out _ _ hHeldA ?_
            clear hK K hHeld
            try simp only [Act.put, List.setIfInBounds_toArray, List.set_cons_zero, List.set_cons_succ]
            refine wpAnyT_ready (rs := [8]) (by kernel_rfl) (by simp) ?_
            refine AllReadyT.cons (o := { dst := some 80, op := Op.call { callee := Callee.builtin Builtin.append, args := #[Operand.tmp 76, Operand.tmp 79], argTypes := #[23, 23] }, type := 23, pos := "ref.go:656", after := #[{ on := 4, ground := Ground.data }, { on := 7, ground := Ground.data }], guard := none }) rfl (fun K hK => ?_) AllReadyT.nil
            refine step_append_lies _ (by rfl) (.tmp 76) (.tmp 79) 23 (by rfl) c.base 9 jj _ 1 16 Tryd.underlying23 hj0 hy0 hy1 hy2 rfl (by decide) (.slice sa R.ws.length sc) R.ws.length _ (by simp [Act.eval]) (owns_fr HO9.out FA (fun _ _ => id)) ⟨w9.heap.size, 0, none⟩ 1 1 [.string (bs t)] (by simp [Act.eval]) rfl (World.news_of_block (cs := #[.string (bs t)]) (t := 9) (fr := (0, 0)) (heap_new w9 _)) (by simp [Value.oneCell']) (by decide) (by unfold maxLen; omega) (by omega) (by omega) _ rfl ?_
            intro g cp w8 hr8 hg8 hat8 hlt8
            have F8 : Fr (fun k => (Value.slice sa R.ws.length sc).ownBlock = some k) w9 w8 := (FA.mono (fun _ _ e => e.elim)).grown hg8 (fun k hk => .inl hk)
            have e1 := (F8.cell (p := ⟨c.mb, 1, none⟩) vl (fun e => NMB.out _ e rfl)).trans v1
            have e2 := (F8.cell (p := ⟨bx, 2, none⟩) ul (fun e => NBX.out _ e rfl)).trans u2
            have ef := (F8.frozen (p := ⟨c.mb, 1, none⟩) vl (fun e => NMB.out _ e rfl)).trans hvz
            have el := Nat.lt_of_lt_of_le vl F8.size
            have hHeld8 := And.intro e1 e2
            have hgg : (Value.slice sa R.ws.length sc).ownBlock = some g ∨ w9.heap.size ≤ g := hat8.imp id (fun e => by rw [e, sA]; omega)
            have HP8 := hide (HRI.out.word (t := t) (sw := ⟨sa, R.ws.length, sc⟩) v1 (g := g) (cap := cp) hr8 F8 hgg)
            have HGG := hide hgg
            have HF8 := hide F8
            clear hr8 hg8 F8 hat8 hgg
            refine hK.out _ _ hHeld8 ?_
            clear hK K hHeldA
            try simp only [Act.put, List.setIfInBounds_toArray, List.set_cons_zero, List.set_cons_succ]
            refine wpAnyT_ready (rs := [9]) (by kernel_rfl) (by simp) ?_
            refine AllReadyT.cons (o := { dst := some 81, op := Op.nilCheck (Operand.tmp 72), type := 0, pos := "ref.go:656", after := #[{ on := 0, ground := Ground.data }, { on := 0, ground := Ground.phase }, { on := 1, ground := Ground.phase }, { on := 2, ground := Ground.phase }, { on := 3, ground := Ground.phase }, { on := 4, ground := Ground.phase }, { on := 5, ground := Ground.phase }, { on := 6, ground := Ground.phase }, { on := 7, ground := Ground.phase }, { on := 8, ground := Ground.phase }], guard := none }) rfl (fun K hK => ?_) AllReadyT.nil
            go_simp
            refine hK.out _ _ hHeld8 ?_
            clear hK K
            try simp only [Act.put, List.setIfInBounds_toArray, List.set_cons_zero, List.set_cons_succ]
            refine wpAnyT_take (i := 10) (oi := { dst := some 82, op := Op.fieldAddr 118 (Operand.tmp 81) 1, type := 0, pos := "ref.go:656", after := #[{ on := 9, ground := Ground.data }, { on := 0, ground := Ground.phase }, { on := 1, ground := Ground.phase }, { on := 2, ground := Ground.phase }, { on := 3, ground := Ground.phase }, { on := 4, ground := Ground.phase }, { on := 5, ground := Ground.phase }, { on := 6, ground := Ground.phase }, { on := 7, ground := Ground.phase }, { on := 8, ground := Ground.phase }], guard := none }) (v := ?v8) rfl (by kernel_rfl) (by kernel_rfl) (by kernel_rfl) (by kernel_rfl) (by kernel_rfl) (fun _ _ _ h => h) (Or.inl ⟨by rfl, ?hy8⟩) (by assumption) ?rest8
            case hy8 => (intro w hSw; (try dsimp only at hSw); obtain ⟨hS1, hS2⟩ := hSw; go_simp; try with_reducible rfl)
            try simp only [Act.put, List.setIfInBounds_toArray, List.set_cons_zero, List.set_cons_succ]
            refine wpAnyT_ready (rs := [11]) (by kernel_rfl) (by simp) ?_
            refine AllReadyT.last (o := { dst := none, op := Op.store 23 (Operand.tmp 82) (Operand.tmp 80), type := 0, pos := "ref.go:656", after := #[{ on := 10, ground := Ground.data }, { on := 8, ground := Ground.data }, { on := 8, ground := Ground.chain }, { on := 0, ground := Ground.phase }, { on := 1, ground := Ground.phase }, { on := 2, ground := Ground.phase }, { on := 3, ground := Ground.phase }, { on := 4, ground := Ground.phase }, { on := 5, ground := Ground.phase }, { on := 6, ground := Ground.phase }, { on := 7, ground := Ground.phase }, { on := 8, ground := Ground.phase }], guard := none }) rfl (by kernel_rfl) (fun K hK => ?_) AllReadyT.nil
            go_simp
            refine hK.out _ _ ?_
            clear hK K
            try simp only [Act.put, List.setIfInBounds_toArray, List.set_cons_zero, List.set_cons_succ]
            refine wpAny_done (by kernel_rfl) ?_ _
            obtain ⟨R6, F6, t6⟩ := HP8.out
            have niT : ¬ T' ib := fun e => by have h1 := HRP.out.1.tl ib e; have := HIB.out; omega
            have q0 := (F6.cell (p := ⟨ib, 0, none⟩) il niT).trans i0
            have q1 := (F6.cell (p := ⟨ib, 1, none⟩) il niT).trans i1'
            have q2 := (F6.cell (p := ⟨ib, 2, none⟩) il niT).trans i2'
            have qf0 := (F6.frozen (p := ⟨ib, 0, none⟩) il niT).trans if0
            have qf1 := (F6.frozen (p := ⟨ib, 1, none⟩) il niT).trans if1
            have qf2 := (F6.frozen (p := ⟨ib, 2, none⟩) il niT).trans if2
            generalize w8.setCell ⟨c.mb, 1, none⟩ (.slice (some ⟨g, 0, none⟩) (R.ws.length + 1) cp) = w6 at *
            have ql := Nat.lt_of_lt_of_le il F6.size
            obtain ⟨w7, hw7, g0, g1, g2, hF7⟩ := set3 (.int .i64 2) (.int .i64 (R.ws.length : Nat)) (.int .i64 0) q0 q1 q2
            have hib9 : ¬ (T' ib ∨ ib = g) := by
              rintro (e | e)
              · exact niT e
              · rcases HGG.out with h | h
                · exact NIB.out g h e.symm
                · omega
            have hO7 : OwnI w.heap.size q R.ins w7 := ((HOO.out.fr HF09.out (fun _ _ => id)).fr F6 (fun b hb => (HQ.out b hb).1)).fr hF7 (fun b hb e => by have h1 := (HOO.out.lt hb).2; have := HIB.out; omega)
            have hRP7 : RP c T w v (R.ws ++ [t]) (fun k => T' k ∨ k = g) w7 := by
              refine ⟨R6.fr hF7 (fun k hk e => hib9 (e ▸ hk)) (fun b hb e => by have := HFL.out b hb; have := HIB.out; have := HRP.out.2.1.size; omega), ?_, fun k hk => ?_⟩
              · exact ((HRP.out.2.1.trans (HF09.out.mono (fun _ _ e => e.elim))).then F6 (fun k hk e => (HRP.out.2.2 k e).elim id (fun h => by omega))).then hF7 (fun k hk e => by have := HIB.out; have := HRP.out.2.1.size; omega)
              · rcases t6 k hk with h | h
                · exact HRP.out.2.2 k h
                · exact .inr (Nat.le_trans HRP.out.2.1.size (Nat.le_trans HF09.out.size h))
            obtain ⟨q4, w5, hrun, hXP⟩ := xp_end hO7 hRP7 (fun b hb e => by
              rcases e with e | e
              · exact (HQ.out b hb).1 e
              · rcases HGG.out with h | h
                · exact (HQ.out b hb).1 (e ▸ (HR3.out g h).1)
                · have h1 := (HOO.out.lt hb).2; have := HF09.out.size; omega) HFL.out ⟨2, (R.ws.length : Nat), 0⟩ hql
            have HXP := hide hXP
            have HXK2 : Hid (exK (gOf l) E (.mk 2 n t a) ws = ⟨R.ins ++ [⟨2, (R.ws.length : Nat), 0⟩], R.ws ++ [t]⟩) := by
              show exK _ _ _ _ = _
              rw [HXK.out]
              unfold lastI lastW
              simp [hwn, (wput_new hct).1]
            have s7 : w7.heap.size = w6.heap.size := by rw [hw7]; simp [World.setCell]
            rw [s7, hw7] at hrun
            clear hXP hRP7 hO7 hF7 hw7 s7 R6 F6 t6 HP8 g0 g1 g2 hHeld8 hwn hct
            go_wp2_with (at_builtin; go_must (refine wpList_run rfl _ _ 52 rfl _ _ rfl rfl hrun ?_))
            go_ret
            rw [HXK2.out]
            exact HXP.out
      by_cases k11 : k = 11
      · subst k11
        have hcall := HU.out.2.1 rfl
        have hFI : Fr nothing wr (wr.alloc (.cells #[.int .i64 0, .int .i64 0, .int .i64 0] 59)) := (Fr.refl _ _).alloc _
        have hci := made_cells (Fr.refl nothing (wr.alloc (.cells #[.int .i64 0, .int .i64 0, .int .i64 0] 59))) id
        have hfn := hRP.1.fn.fr hFI (fun _ _ => id)
        have hc0 := (hFI.cell (p := ⟨c.mb, 0, none⟩) hRP.1.ml id).trans hRP.1.c0
        have hml := Nat.lt_of_lt_of_le hRP.1.ml hFI.size
        have hffl := hRP.1.fl
        obtain ⟨hfn1, hfn2⟩ := sl_len hfn
        obtain ⟨mb, base, ⟨fa, fn, fc⟩, rsF⟩ := c
        simp only at hfn hc0 hml hfn1 hfn2 hffl
        have hFNo := HFN.out
        unfold FnNames at hFNo
        simp only at hFNo
        rw [hFNo.1] at hfn1 hfn2
        subst hfn1
        replace hc0 : (wr.alloc (.cells #[.int .i64 0, .int .i64 0, .int .i64 0] 59)).cell? ⟨mb, 0, none⟩ = some (.slice fa l.length fc) := hc0
        have x2 := (hFI.cell (p := ⟨bx, 2, none⟩) hbl id).trans z2
        have x3 := (hFI.cell (p := ⟨bx, 3, none⟩) hbl id).trans z3
        have xl := Nat.lt_of_lt_of_le hbl hFI.size
        have HFI := hide hFI
        have HCI := hide hci
        have HFNl := hide hfn
        have HFN2 := hide hFNo.2
        have HFNL := hide hFNo.1
        have hbi : ¬ bx = wr.heap.size := by omega
        have hmi : ¬ mb = wr.heap.size := by have := hRP.1.ml; simp only at this; omega
        have hfi : ∀ b, (Value.slice fa l.length fc).ownBlock = some b → ¬ b = wr.heap.size := fun b hb => by have := hffl b hb; omega
        have HFIB := hide hfi
        clear hR hO hRP hq hbc hab hAT hje hFI hci hfn hFNo hfi hffl k1 k2 k3 k4
        go_wp2_with fail
        generalize wr.alloc (.cells #[.int .i64 0, .int .i64 0, .int .i64 0] 59) = wi at *
        generalize hib : wr.heap.size = ib at *
        go_loopw [104, 12, 13] (fun i _ _ wv => ∃ (j2 : Nat), j2 ≤ l.length ∧ i = .int .i64 j2 ∧ Hid (Fr (fun k => k = ib) wi wv ∧ wv.cell? ⟨ib, 0, none⟩ = some (.int .i64 (callI l t a.length j2).op) ∧ wv.cell? ⟨ib, 1, none⟩ = some (.int .i64 (callI l t a.length j2).a) ∧ wv.cell? ⟨ib, 2, none⟩ = some (.int .i64 (callI l t a.length j2).b) ∧ ∀ j, wv.frozen? ⟨ib, j, none⟩ = false)) (fun i _ _ _ => l.length - (intOf i).toNat)
        case atStart => exact ⟨0, Nat.zero_le _, rfl, Fr.refl _ _, HCI.out.1 0, HCI.out.1 1, HCI.out.1 2, HCI.out.2.1⟩
        case round =>
          obtain ⟨j2, hj2, rfl, hR⟩ := hrel
          by_cases hjl2 : j2 < l.length
          · have hx : l[j2]? = some l[j2] := List.getElem?_eq_getElem hjl2
            have hr : rsF[j2]? = some (rsF[j2]'(by rw [HFNL.out]; omega)) := List.getElem?_eq_getElem _
            generalize hre : rsF[j2]'(by rw [HFNL.out]; omega) = r at hr
            generalize hfe : l[j2] = f at hx
            have hnm := HFN2.out j2 r f hr hx
            obtain ⟨g, o, hg, dg, p0, p1, p2⟩ := sl_elem3 (s := ⟨fa, l.length, fc⟩) HFNl.out hr
            simp only at hg
            subst hg
            obtain ⟨hF, i0, i1, i2, ifz⟩ := hR.out
            have hgi : ¬ g = ib := HFIB.out g rfl
            rw [← hF.cell (p := ⟨g, _, none⟩) dg hgi] at p0 p1 p2
            have eg : g < wr.heap.size := Nat.lt_of_lt_of_le dg hF.size
            have y2 := (hF.cell (p := ⟨bx, 2, none⟩) xl hbi).trans x2
            have y3 := (hF.cell (p := ⟨bx, 3, none⟩) xl hbi).trans x3
            have yl := Nat.lt_of_lt_of_le xl hF.size
            have hil : ib < wr.heap.size := lt_of_cell i0
            have hFB : Fr nothing wr (wr.alloc (fo r)) := (Fr.refl _ _).alloc _
            obtain ⟨rt, rp, rb⟩ := r
            simp only at hnm p0 p1 p2
            subst hnm
            have hF2 := hF.trans (hFB.mono (fun _ _ e => e.elim))
            have v0 := (hFB.cell (p := ⟨ib, 0, none⟩) hil id).trans i0
            have v1 := (hFB.cell (p := ⟨ib, 1, none⟩) hil id).trans i1
            have v2 := (hFB.cell (p := ⟨ib, 2, none⟩) hil id).trans i2
            have u2 := (hFB.cell (p := ⟨bx, 2, none⟩) yl id).trans y2
            have u3 := (hFB.cell (p := ⟨bx, 3, none⟩) yl id).trans y3
            have ul := Nat.lt_of_lt_of_le yl hFB.size
            have vz : ∀ j, (wr.alloc (fo ⟨f.t, rp, rb⟩)).frozen? ⟨ib, j, none⟩ = false := fun j => (hFB.frozen (p := ⟨ib, j, none⟩) hil id).trans (ifz j)
            have vl := Nat.lt_of_lt_of_le hil hFB.size
            obtain ⟨n0, n1, n2, nl⟩ := fo_cells (Fr.refl nothing (wr.alloc (fo ⟨f.t, rp, rb⟩))) id
            have HF2 := hide hF2
            have HV := hide (And.intro v0 (And.intro v1 (And.intro v2 vz)))
            have vz0 := vz 0
            have vz1 := vz 1
            have vz2 := vz 2
            clear hR hF hFB hF2 hr hx hre i0 i1 i2 ifz y2 y3
            by_cases hft : f.t = t
            · subst hft
              obtain ⟨w6, hw6, g0, g1, g2, hF6⟩ := set3 (.int .i64 17) (.int .i64 (j2 : Nat)) (.int .i64 (a.length : Nat)) v0 v1 v2
              have HC := hide (callI_eq (len := a.length) hjl2 hfe rfl)
              have HNX := hide (show Fr (fun k => k = ib) wi w6 ∧ w6.cell? ⟨ib, 0, none⟩ = some (.int .i64 17) ∧ w6.cell? ⟨ib, 1, none⟩ = some (.int .i64 (j2 : Nat)) ∧ w6.cell? ⟨ib, 2, none⟩ = some (.int .i64 (a.length : Nat)) ∧ ∀ j, w6.frozen? ⟨ib, j, none⟩ = false from ⟨HF2.out.trans hF6, g0, g1, g2, fun j => by rw [hw6, World.frozen?_setCell, World.frozen?_setCell, World.frozen?_setCell]; exact HV.out.2.2.2 j⟩)
              have HW6 := hide hw6
              have hq := bs_same f.t
              clear hw6 g0 g1 g2 hF6 hfe vz
              generalize hwa : wr.alloc (fo ⟨f.t, rp, rb⟩) = wa at *
              go_wp2_with fail
              rw [← HW6.out]
              go_roundw
              case rel => exact ⟨j2 + 1, by omega, by go_num, by rw [HC.out]; exact HNX.out⟩
              case measure => simp [intOf]; omega
            · have HC := hide (callI_ne (len := a.length) hjl2 hfe hft)
              have hq := bs_ne hft
              clear hfe vz
              generalize hwa : wr.alloc (fo ⟨f.t, rp, rb⟩) = wa at *
              go_wp2_with fail
              go_roundw
              case rel => exact ⟨j2 + 1, by omega, by go_num, by rw [HC.out]; exact ⟨HF2.out, HV.out⟩⟩
              case measure => simp [intOf]; omega
          · have hje2 : j2 = l.length := by omega
            obtain ⟨hF, i0, i1, i2, ifz⟩ := hR.out
            rw [hje2, callI_all hcall] at i0 i1 i2
            have hil : ib < wr.heap.size := lt_of_cell i0
            obtain ⟨q2, w5, hrun, hXP⟩ := HEND.out wr (HFI.out.then hF (fun k hk e => by omega)) ⟨17, gOf l t, (a.length : Nat)⟩
            have HXP := hide hXP
            simp only at i0 i1 i2 hrun
            clear hR hF ifz hje2 hXP
            go_wp2_with (at_builtin; go_must (refine wpList_run rfl _ _ 52 rfl _ _ rfl rfl hrun ?_))
            go_ret
            rw [HXK.out]
            exact HXP.out
      · have hkr : -9223372036854775808 ≤ k ∧ k ≤ 9223372036854775807 := by have := HKD.out; omega
        have e1 := opsF_op (gOf l) E k n t a.length R.ws k1 k2 k3 k4 k11
        have e2 : lastW k t R.ws = R.ws := by unfold lastW; rw [if_neg k2]
        have hFI : Fr nothing wr (wr.alloc (.cells #[.int .i64 0, .int .i64 0, .int .i64 0] 59)) := (Fr.refl _ _).alloc _
        have sA : (wr.alloc (.cells #[.int .i64 0, .int .i64 0, .int .i64 0] 59)).heap.size = wr.heap.size + 1 := by simp
        have hci := made_cells (Fr.refl nothing (wr.alloc (.cells #[.int .i64 0, .int .i64 0, .int .i64 0] 59))) id
        obtain ⟨wi, hwi⟩ : ∃ wi, wi = wr.alloc (.cells #[.int .i64 0, .int .i64 0, .int .i64 0] 59) := ⟨_, rfl⟩
        rw [← hwi] at hFI sA hci
        obtain ⟨m1, m2, m3, m4, m5, m6, r1, r2, r3, r4, r5, r6, r7, hF6, hl6⟩ := ops_run wi
        have hlk := r7 k hkr.1 hkr.2
        rw [sA] at r1 r2 r3 r4 r5 r6 hlk hl6
        rw [hwi] at r1
        have i0 := (hF6.cell (p := ⟨wr.heap.size, 0, none⟩) hci.2.2 id).trans (hci.1 0)
        have i1 := (hF6.cell (p := ⟨wr.heap.size, 1, none⟩) hci.2.2 id).trans (hci.1 1)
        have i2 := (hF6.cell (p := ⟨wr.heap.size, 2, none⟩) hci.2.2 id).trans (hci.1 2)
        have if0 := (hF6.frozen (p := ⟨wr.heap.size, 0, none⟩) hci.2.2 id).trans (hci.2.1 0)
        have il := Nat.lt_of_lt_of_le hci.2.2 hF6.size
        have x0 := (hF6.cell (p := ⟨bx, 0, none⟩) (Nat.lt_of_lt_of_le hbl hFI.size) id).trans ((hFI.cell (p := ⟨bx, 0, none⟩) hbl id).trans z0)
        have xl := Nat.lt_of_lt_of_le (Nat.lt_of_lt_of_le hbl hFI.size) hF6.size
        have hmm := @run_makeMap Tryd.prog
        rw [e1, e2] at HXK
        clear hR hO hRP hq hbc hab hAT hje e1 e2 hci
        have p1 : (k == 1) = false := by simpa using k1
        have p2 : (k == 2) = false := by simpa using k2
        have p3 : (k == 3) = false := by simpa using k3
        have p4 : (k == 4) = false := by simpa using k4
        have p11 : (k == 11) = false := by simpa using k11
        obtain ⟨e0, e2, hF7⟩ := set_one m6 wr.heap.size 0 (.int .i64 ((opsF k).getD 0)) i0
        have hF07 : Fr nothing wr (m6.setCell ⟨wr.heap.size, 0, none⟩ (.int .i64 ((opsF k).getD 0))) := (hFI.trans hF6).then hF7 (fun k hk e => by omega)
        have j1 := (e2 1 (by decide)).trans i1
        have j2 := (e2 2 (by decide)).trans i2
        have jl := Nat.lt_of_lt_of_le il hF7.size
        obtain ⟨q2, w5, hrun, hXP⟩ := HEND.out _ hF07 ⟨(opsF k).getD 0, 0, 0⟩
        have HXP := hide hXP
        have sM : (m6.setCell ⟨wr.heap.size, 0, none⟩ (.int .i64 ((opsF k).getD 0))).heap.size = m6.heap.size := by simp [World.setCell]
        rw [sM] at hrun
        clear sM hwi hXP hF07 hF7 e2 hFI hF6 hkr sA hl6
        go_wp2_with (at_builtin; go_must (refine wpList_run rfl _ _ 52 rfl _ _ rfl rfl hrun ?_))
        go_ret
        rw [HXK.out]
        exact HXP.out
theorem rexpr_any (l : List Fn) : ∀ (x : Ex), REx l x
  | .mk k n t a => rexpr_step l k n t a (fun x _ => rexpr_any l x)
end Go.Proofs.YtpemfikdmkmgbaaDoor
end
section
/- The document's own answer: a map is copied; the closure that puts an instruction behind. -/
set_option maxHeartbeats 0
set_option maxRecDepth 100000
namespace Go.Proofs.YtpemfikdmkmgbaaDoor
open Go Go.RowKit
theorem keyOf_str_inv {key : Value} {kl : Lit} (h : keyOf Tryd.prog 9 key = some kl) : ∃ x : Bs, key = .string (bs x) ∧ kl = .string x := by
  cases key <;> simp [keyOf, Tryd.underlying9, mapKey] at h
  rename_i s
  refine ⟨s.data.toList, ?_, ?_⟩
  · unfold bs
    simp
  · obtain ⟨_, rfl⟩ := h
    first | rfl | simp
theorem SI.storeK {b : Nat} {A : AMap} {w : World} (h : SI b A w) (k : Bs) (hk : keyOf Tryd.prog 9 (.string (bs k)) = some (.string k)) (v : Int) (hn : A.n ≤ 200000) (hw : (Lit.int .i64 v).wf = true) :
    ∃ w', (Instr.mapUpdate 119 (.map (some b)) (.string (bs k)) (.int .i64 v)).run Tryd.prog w = .ok () w' ∧ SI b (A.put k v) w' ∧ w.grownBy w' (some b) := by
  obtain ⟨D, g1, g2, g3, g4⟩ := h
  obtain ⟨w', hrun, ho, hg⟩ := g1.update law9 Tryd.underlying119 (by unfold maxLen; omega) hk (plainElem_int Tryd.underlying3 hw)
  have hmap := isMap_of g1
  have hkey : WideAt.IsKeyLit (.string k) := by trivial
  have htd := World.ownsMap.tidy g1 law9
  have hsz : Maps.size (D.put (.string k) (.lit (.int .i64 v))) = (A.put k v).n := by
    rw [Maps.size_put htd, g3, g4]
    rfl
  refine ⟨w', hrun, ⟨D.put (.string k) (.lit (.int .i64 v)), ?_, fun x => ?_, fun x => ?_, hsz⟩, hg⟩
  · rw [← hsz]; exact owns_map_tight ho
  · by_cases hx : x = k
    · subst hx
      rw [Maps.atKey_put_same hmap hkey]
      simp [AMap.put]
    · rw [Maps.atKey_put_other (by intro e; exact hx (by cases e; rfl)), g2]
      simp [AMap.put, hx]
  · by_cases hx : x = k
    · subst hx
      rw [Maps.has_put_same hmap hkey]
      simp [AMap.put]
    · rw [Maps.has_put_other (by intro e; exact hx (by cases e; rfl)), g3]
      simp [AMap.put, hx]
theorem wpList_next_run {P : Program} {w : World} {ops : Array Oper} {rest : List Oper} {o : Oper} {a : Act} {Q : Exit → Act → World → Prop} (hg : o.guard = none) (it : Operand) (hop : o.op = Op.next it false) (p : Value) (hit : a.eval it = p) {v : Value} {w' : World} (hrun : (Instr.next p false o.type).run P w = .ok v w') (h : wpList P ops Q rest (a.put o.dst v) w') : wpList P ops Q (o :: rest) a w := by
  refine wpList_plain hg fun K' hK' => ?_
  unfold Oper.wp
  simp [execOp, hop, hit, hrun, Result.andThen]
  exact hK' _ _ h
/-- A map is being copied. -/
structure Cp (ab ib r : Nat) (A : AMap) (w : World) : Prop where
  s : ∃ (D : DataW Unit) (left : Lit → Bool) (cnt : Nat) (B : AMap), w.ranges Tryd.prog 9 (plainElem Tryd.prog 3) ab r A.n D left cnt ∧ (∀ k, D.atKey (.string k) (.lit (.int .i64 0)) = .lit (.int .i64 ((A.f k).getD 0))) ∧ (∀ k, left (.string k) = true → (A.f k).isSome = true) ∧ SI ib B w ∧ (∀ k, B.f k = if left (.string k) then none else A.f k) ∧ B.n + cnt ≤ A.n
theorem Cp.start {ab : Nat} {A : AMap} {w : World} (h : SI ab A w) (o : Nat) (hm : SI o AMap.empty w) : ∃ w', (Instr.range 119 (.map (some ab))).run Tryd.prog w = .ok (.pointer (some ⟨w.heap.size, 0, none⟩)) w' ∧ Cp ab o w.heap.size A w' ∧ Fr nothing w w' ∧ w'.heap.size = w.heap.size + 1 := by
  obtain ⟨D, h1, h2, h3, h4⟩ := h
  obtain ⟨w', hrun, hr, hg, hs⟩ := h1.range law9 Tryd.underlying119
  have hf : Fr nothing w w' := (Fr.refl nothing w).grown hg (fun k hk => by cases hk)
  refine ⟨w', hrun, ⟨D, _, _, AMap.empty, hr, h2, fun k hk => by rw [← h3]; exact hk, hm.fr hf id, fun k => ?_, ?_⟩, hf, hs⟩
  · rw [h3]
    cases hA : A.f k <;> simp [AMap.empty]
  · rw [h4]; simp [AMap.empty]
theorem Cp.step {ab ib r : Nat} {A : AMap} {w : World} (h : Cp ab ib r A w) (ty : TypeId) (hA : A.n ≤ 200000) (hne : ab ≠ ib) (hri : r ≠ ib) :
    ((Instr.next (.pointer (some ⟨r, 0, none⟩)) false ty).run Tryd.prog w = .ok (.tuple #[.bool false]) w ∧ ∃ B : AMap, SI ib B w ∧ B.f = A.f ∧ B.n ≤ A.n) ∨
    ∃ (x : Bs) (c : Int) (w1 w2 : World), (Instr.next (.pointer (some ⟨r, 0, none⟩)) false ty).run Tryd.prog w = .ok (.tuple #[.bool true, .string (bs x), .int .i64 c]) w1 ∧
      (Instr.entry (.pointer (some ⟨r, 0, none⟩))).run Tryd.prog w1 = .ok (.tuple #[.string (bs x), .int .i64 c]) w1 ∧ (Instr.mapUpdate 119 (.map (some ib)) (.string (bs x)) (.int .i64 c)).run Tryd.prog w1 = .ok () w2 ∧
      Cp ab ib r A w2 ∧ Fr (fun k => k = r ∨ k = ib) w w2 ∧ w2.rangeLeft ab r < w.rangeLeft ab r := by
  obtain ⟨D, left, cnt, B, hr, h2, h3, hB, h5, h6⟩ := h.s
  rcases hr.next law9 ty with ⟨h0, hl, hrun⟩ | ⟨key, v, kl, y, w1, cnt1, hkey, hlk, hv, hat, hrun, hr1, hlt, hgr, hsz, hen⟩
  · refine .inl ⟨hrun, B, hB, ?_, by omega⟩
    funext k
    rw [h5, hl]
    simp
  · obtain ⟨x, rfl, rfl⟩ := keyOf_str_inv hkey
    obtain ⟨c, rfl, rfl, hwc⟩ := plainElem_int_inv Tryd.underlying3 hv
    have hat0 := hat (.lit (.int .i64 0))
    rw [h2] at hat0
    simp only [DataW.lit.injEq, Lit.int.injEq, true_and] at hat0
    have hsome := h3 x hlk
    have hAx : A.f x = some c := by
      cases e : A.f x with
      | none => rw [e] at hsome; cases hsome
      | some d => rw [e] at hat0; simp only [Option.getD_some] at hat0; rw [hat0]
    have hF1 : Fr (fun k => k = r) w w1 := (Fr.refl _ w).grown hgr (fun k hk => .inl (by simpa using hk.symm))
    have hB1 := hB.fr hF1 (fun e => hri e.symm)
    obtain ⟨w2, hrun2, hB2, hg2⟩ := hB1.storeK x hkey c (by omega) hwc
    have hF2 : Fr (fun k => k = ib) w1 w2 := (Fr.refl _ w1).grown hg2 (fun k hk => .inl (by simpa using hk.symm))
    have hr2 := hr1.kept hg2 (by simpa using hne) (by simpa using hri)
    refine .inr ⟨x, c, w1, w2, hrun, hen, hrun2, ⟨D, _, cnt1, B.put x c, hr2, h2, fun k hk => h3 k (by simp only [Bool.and_eq_true] at hk; exact hk.1), hB2, fun k => ?_, ?_⟩, (hF1.mono (fun _ _ e => .inl e)).trans (hF2.mono (fun _ _ e => .inr e)), by rw [hr2.left_eq, hr.left_eq]; exact hlt⟩
    · by_cases hk : k = x
      · subst hk
        have : (Lit.string k).sameKey (.string k) = true := WideAt.sameKey_self (by trivial)
        simp [AMap.put, this, hAx]
      · have : (Lit.string k).sameKey (.string x) = false := by
          rw [Bool.eq_false_iff]
          intro e
          exact hk (by have := WideAt.sameKey_eq e; cases this; rfl)
        simp [AMap.put, hk, this, h5]
    · have : (B.put x c).n ≤ B.n + 1 := by unfold AMap.put; simp only; split <;> omega
      omega
/-- An instruction is put behind, and all that behind what is there. -/
theorem one_any (ob gb base basea : Nat) (q qa : Slc) (la args : List In) (w : World) (op a : Int) (h1 : w.cell? ⟨ob, 0, none⟩ = some q.v) (h2 : OwnI base q la w) (h3 : w.cell? ⟨gb, 0, none⟩ = some qa.v) (h4 : OwnI basea qa args w) (hb4 : basea ≤ w.heap.size)
    (hne : ∀ b, qa.v.ownBlock = some b → b ≠ ob ∧ b ≠ gb ∧ ¬ q.v.ownBlock = some b) (hz : w.frozen? ⟨ob, 0, none⟩ = false) (hl1 : la.length ≤ 300000) (hl2 : args.length ≤ 300000) (hJ : NoJ (args ++ [⟨op, a, 0⟩])) :
    Calls Tryd.prog 60 #[.int .i64 op, .int .i64 a, .pointer (some ⟨ob, 0, none⟩), .pointer (some ⟨gb, 0, none⟩)] w fun e w' => e = .returned (.tuple #[]) ∧ ∃ q' : Slc, w'.cell? ⟨ob, 0, none⟩ = some q'.v ∧ OwnI w.heap.size q' (la ++ (args ++ [⟨op, a, 0⟩])) w' ∧ Fr (fun k => k = ob ∨ qa.v.ownBlock = some k) w w' ∧ w'.frozen? ⟨ob, 0, none⟩ = false := by
  obtain ⟨qx, qn, qc⟩ := q
  obtain ⟨ax, an, ac⟩ := qa
  have hol := lt_of_cell h1
  have hgl := lt_of_cell h3
  have FA : Fr nothing w (w.alloc (.cells #[.int .i64 op, .int .i64 a, .int .i64 0] 59)).drew := ((Fr.refl nothing w).alloc _).drew
  have hSL : Sl encI 3 (w.alloc (.cells #[.int .i64 op, .int .i64 a, .int .i64 0] 59)).drew (Slc.v ⟨some ⟨w.heap.size, 0, none⟩, 1, 1⟩) [⟨op, a, 0⟩] := (sl_litI w ⟨op, a, 0⟩).fr (Fr.refl nothing _).drew (fun _ _ => id)
  obtain ⟨q2, w2, hrun, own2, hF2, hat2⟩ := (h4.fr FA (fun _ _ => id)).app (x := ⟨some ⟨w.heap.size, 0, none⟩, 1, 1⟩) hSL (Nat.le_trans hb4 FA.size) (by simp only [List.length_singleton]; omega)
  have F02 : Fr (fun k => (Slc.v ⟨ax, an, ac⟩).ownBlock = some k) w w2 := (FA.mono (fun _ _ e => e.elim)).trans hF2
  have hJo := join_any ⟨qx, qn, qc⟩ q2 la (args ++ [⟨op, a, 0⟩]) w2 (h2.fr F02 (fun k hk e => (hne k e).2.2 hk)).sl own2.sl (by simp only [List.length_append, List.length_singleton]; omega) (fun x hx e => absurd e (by have := hJ x hx; omega))
  rw [shiftI_no hJ] at hJo
  have k1 := (F02.cell (p := ⟨ob, 0, none⟩) hol (fun e => (hne _ e).1 rfl)).trans h1
  have k3 := (F02.cell (p := ⟨gb, 0, none⟩) hgl (fun e => (hne _ e).2.1 rfl)).trans h3
  have kz := (F02.frozen (p := ⟨ob, 0, none⟩) hol (fun e => (hne _ e).1 rfl)).trans hz
  have kl := Nat.lt_of_lt_of_le hol F02.size
  have a1 := (FA.cell (p := ⟨ob, 0, none⟩) hol id).trans h1
  have a3 := (FA.cell (p := ⟨gb, 0, none⟩) hgl id).trans h3
  have gl2 := Nat.lt_of_lt_of_le hgl F02.size
  have HJo := hide hJo
  have HF := hide F02
  clear FA hSL own2 hF2 hat2 F02 hJo h2 h4 hne hJ
  go_enter Tryd.func60, Tryd.ntmps60
  refine wp_region_T (S := fun w' => w'.cell? ⟨ob, 0, none⟩ = some (.slice qx qn qc) ∧ w'.cell? ⟨gb, 0, none⟩ = some (.slice ax an ac)) (by kernel_rfl) [8] ?_ (fun hHeld => ?_)
  · exact ⟨h1, h3⟩
  refine wpAnyT_take (i := 0) (oi := { dst := some 6, op := Op.load 52 (Operand.tmp 2), type := 52, pos := "ref.go:699", after := #[], guard := none }) (v := ?v1) rfl (by kernel_rfl) (by kernel_rfl) (by kernel_rfl) (by kernel_rfl) (by kernel_rfl) (fun _ _ _ h => h) (Or.inl ⟨by rfl, ?hy1⟩) (by assumption) ?rest1
  case hy1 => (intro w hSw; (try dsimp only at hSw); obtain ⟨hS1, hS2⟩ := hSw; go_simp; try with_reducible rfl)
  try simp only [Act.put, List.setIfInBounds_toArray, List.set_cons_zero, List.set_cons_succ]
  refine wpAnyT_take (i := 1) (oi := { dst := some 7, op := Op.load 52 (Operand.tmp 3), type := 52, pos := "ref.go:699", after := #[], guard := none }) (v := ?v2) rfl (by kernel_rfl) (by kernel_rfl) (by kernel_rfl) (by kernel_rfl) (by kernel_rfl) (fun _ _ _ h => h) (Or.inl ⟨by rfl, ?hy2⟩) (by assumption) ?rest2
  case hy2 => (intro w hSw; (try dsimp only at hSw); obtain ⟨hS1, hS2⟩ := hSw; go_simp; try with_reducible rfl)
  try simp only [Act.put, List.setIfInBounds_toArray, List.set_cons_zero, List.set_cons_succ]
  refine wpAnyT_take (i := 2) (oi := { dst := some 8, op := Op.move (Operand.tmp 0), type := 3, pos := "ref.go:699", after := #[], guard := none }) (v := ?v3) rfl (by kernel_rfl) (by kernel_rfl) (by kernel_rfl) (by kernel_rfl) (by kernel_rfl) (fun _ _ _ h => h) (Or.inl ⟨by rfl, ?hy3⟩) (by assumption) ?rest3
  case hy3 => (intro w hSw; (try dsimp only at hSw); obtain ⟨hS1, hS2⟩ := hSw; go_simp; try with_reducible rfl)
  try simp only [Act.put, List.setIfInBounds_toArray, List.set_cons_zero, List.set_cons_succ]
  refine wpAnyT_take (i := 3) (oi := { dst := some 9, op := Op.move (Operand.tmp 1), type := 3, pos := "ref.go:699", after := #[], guard := none }) (v := ?v4) rfl (by kernel_rfl) (by kernel_rfl) (by kernel_rfl) (by kernel_rfl) (by kernel_rfl) (fun _ _ _ h => h) (Or.inl ⟨by rfl, ?hy4⟩) (by assumption) ?rest4
  case hy4 => (intro w hSw; (try dsimp only at hSw); obtain ⟨hS1, hS2⟩ := hSw; go_simp; try with_reducible rfl)
  try simp only [Act.put, List.setIfInBounds_toArray, List.set_cons_zero, List.set_cons_succ]
  refine wpAnyT_take (i := 4) (oi := { dst := some 10, op := Op.build 59 #[(0, Operand.tmp 8), (1, Operand.tmp 9)], type := 59, pos := "ref.go:699", after := #[{ on := 2, ground := Ground.data }, { on := 3, ground := Ground.data }], guard := none }) (v := ?v5) rfl (by kernel_rfl) (by kernel_rfl) (by kernel_rfl) (by kernel_rfl) (by kernel_rfl) (fun _ _ _ h => h) (Or.inl ⟨by rfl, ?hy5⟩) (by assumption) ?rest5
  case hy5 => (intro w hSw; (try dsimp only at hSw); obtain ⟨hS1, hS2⟩ := hSw; go_simp; try with_reducible rfl)
  try simp only [Act.put, List.setIfInBounds_toArray, List.set_cons_zero, List.set_cons_succ]
  refine wpAnyT_ready (rs := [5]) (by kernel_rfl) (by simp) ?_
  refine AllReadyT.cons (o := { dst := some 11, op := Op.buildSlice 52 1 #[(0, Operand.tmp 10)], type := 52, pos := "ref.go:699", after := #[{ on := 4, ground := Ground.data }], guard := none }) rfl (fun K hK => ?_) AllReadyT.nil
  go_simp
  refine hK.out _ _ ⟨a1, a3⟩ ?_
  clear hK K hHeld
  try simp only [Act.put, List.setIfInBounds_toArray, List.set_cons_zero, List.set_cons_succ]
  refine wpAnyT_ready (rs := [6]) (by kernel_rfl) (by simp) ?_
  refine AllReadyT.cons (o := { dst := some 12, op := Op.call { callee := Callee.builtin Builtin.append, args := #[Operand.tmp 7, Operand.tmp 11], argTypes := #[52, 52] }, type := 52, pos := "ref.go:699", after := #[{ on := 1, ground := Ground.data }, { on := 5, ground := Ground.data }], guard := none }) rfl (fun K hK => ?_) AllReadyT.nil
  refine step_run rfl _ _ 52 rfl _ _ (by simp [Act.eval]) (by simp [Act.eval]) hrun ?_
  refine hK.out _ _ ⟨k1, k3⟩ ?_
  clear hK K hrun
  try simp only [Act.put, List.setIfInBounds_toArray, List.set_cons_zero, List.set_cons_succ]
  refine wpAnyT_ready (rs := [7]) (by kernel_rfl) (by simp) ?_
  refine AllReadyT.cons (o := { dst := some 13, op := Op.call { callee := Callee.value (Operand.func 61), args := #[Operand.tmp 6, Operand.tmp 12], argTypes := #[52, 52] }, type := 52, pos := "ref.go:699", after := #[{ on := 0, ground := Ground.data }, { on := 6, ground := Ground.data }, { on := 6, ground := Ground.chain }], guard := none }) rfl (fun K hK => ?_) AllReadyT.nil
  refine step_call (by rfl) 61 Tryd.f61 #[.tmp 6, .tmp 12] #[52, 52] rfl Tryd.func61 (by kernel_rfl) (by kernel_rfl) #[.slice qx qn qc, .slice q2.a q2.n q2.c] (by simp [Act.eval]) _ HJo.out ?_
  rintro e w3 ⟨q3, rfl, own3, F3⟩
  refine ⟨_, rfl, ?_⟩
  have l1 := (F3.cell (p := ⟨ob, 0, none⟩) kl id).trans k1
  have l3 := (F3.cell (p := ⟨gb, 0, none⟩) gl2 id).trans k3
  have lz := (F3.frozen (p := ⟨ob, 0, none⟩) kl id).trans kz
  have ll := Nat.lt_of_lt_of_le kl F3.size
  have HF3 := hide F3
  have HO3 := hide own3
  clear F3 own3
  refine hK.out _ _ ⟨l1, l3⟩ ?_
  clear hK K
  try simp only [Act.put, List.setIfInBounds_toArray, List.set_cons_zero, List.set_cons_succ]
  refine wpAnyT_ready (rs := [8]) (by kernel_rfl) (by simp) ?_
  refine AllReadyT.last (o := { dst := none, op := Op.store 52 (Operand.tmp 2) (Operand.tmp 13), type := 0, pos := "ref.go:699", after := #[{ on := 7, ground := Ground.data }, { on := 7, ground := Ground.chain }, { on := 0, ground := Ground.phase }, { on := 1, ground := Ground.phase }, { on := 2, ground := Ground.phase }, { on := 3, ground := Ground.phase }, { on := 4, ground := Ground.phase }, { on := 5, ground := Ground.phase }, { on := 6, ground := Ground.phase }, { on := 7, ground := Ground.phase }], guard := none }) rfl (by kernel_rfl) (fun K hK => ?_) AllReadyT.nil
  go_simp
  refine hK.out _ _ ?_
  clear hK K
  try simp only [Act.put, List.setIfInBounds_toArray, List.set_cons_zero, List.set_cons_succ]
  refine wpAny_done (by kernel_rfl) ?_ _
  go_wp2_with fail
  go_end0
  obtain ⟨e1, e2, hf⟩ := set_one w3 ob 0 (.slice q3.a q3.n q3.c) l1
  have hne3 : ¬ q3.v.ownBlock = some ob := fun e => by have := (HO3.out.lt e).1; omega
  refine ⟨rfl, q3, e1, ?_, ?_, by rw [World.frozen?_setCell]; exact lz⟩
  · have := HO3.out.fr hf (fun k hk e => hne3 (e ▸ hk))
    exact ⟨this.n, this.row.mono HF.out.size⟩
  · exact ((HF.out.mono (fun _ _ e => .inr e)).trans (HF3.out.mono (fun _ _ e => e.elim))).trans (hf.mono (fun _ _ e => .inl e))
end Go.Proofs.YtpemfikdmkmgbaaDoor
end
