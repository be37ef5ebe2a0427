/- Canon: what it answers. -/
import Derived.Test.YtcemfgknnpjlhaaDoorRight
namespace Go.Proofs.YtcemfgknnpjlhaaDoor
open Go.RowKit Go.Ws

/-- What the outer loop goes by. -/
def CanO (w : World) (h : List Cel) (hv : Value) (l : List Val) (k : Nat) (wr : World) : Prop :=
  wr.ownsRow (w.heap.size + 4) 25 3 (.slice (some ⟨w.heap.size + 4, 0, none⟩) k l.length) k (((l.take k).map (ren h.length (ordL h (l.take k)))).flatMap encV) ∧
    ∃ cw, CI w h hv (ordL h (l.take k)) (mid h (ordL h (l.take k)) (ordL h (l.take k)).length) cw wr

/-- What the inner loop goes by. -/
def CanI (w : World) (h : List Cel) (hv : Value) (l : List Val) (k d : Nat) (wr : World) : Prop :=
  wr.ownsRow (w.heap.size + 4) 25 3 (.slice (some ⟨w.heap.size + 4, 0, none⟩) (k + 1) l.length) (k + 1) (((l.take (k + 1)).map (ren h.length (ordL h (l.take (k + 1))))).flatMap encV) ∧
    ∃ o cw, Ok h.length o ∧ d ≤ o.length ∧ Upto h o d ∧ close h (h.length - d) o d = ordL h (l.take (k + 1)) ∧ CI w h hv o (mid h o d) cw wr


theorem vals_kept {w wr w2 : World} {h : List Cel} {hv : Value} {o : List Nat} {cs : List Cel} {cw : Value} {O : Obj} {k c : Nat} {xs : List Value} (hr : wr.ownsRow (w.heap.size + 4) 25 3 (.slice (some ⟨w.heap.size + 4, 0, none⟩) k c) k xs) (hI : CI w h hv o cs cw wr)
    (hF : Fr (comeS w cw) (wr.alloc O) w2) : w2.ownsRow (w.heap.size + 4) 25 3 (.slice (some ⟨w.heap.size + 4, 0, none⟩) k c) k xs := by
  refine owns_fr (hr.alloc O) hF (fun j hj => ?_)
  have hj' : w.heap.size + 4 = j := by simpa [Value.ownBlock] using hj
  rintro (hx | hx | hx)
  · omega
  · omega
  · have := (hI.row.lt j hx).1; omega

theorem CI.shape {w0 : World} {h : List Cel} {hv : Value} {o : List Nat} {cs : List Cel} {cw : Value} {w : World} (hI : CI w0 h hv o cs cw w) : ∃ ca cc, cw = .slice ca cs.length cc := by
  rcases hI.row.2 with ⟨rfl, h0⟩ | ⟨g, c, _, rfl, _⟩
  · exact ⟨none, 0, by rw [h0]⟩
  · exact ⟨_, _, rfl⟩

theorem canO_vals {wr : World} {h : List Cel} {l : List Val} {base e : Nat} {v : Value} (hr : wr.ownsRow base e 3 v l.length (((l.take l.length).map (ren h.length (ordL h (l.take l.length)))).flatMap encV)) : Sl encV 3 wr.drew v (canonV h l) := by
  rw [List.take_length] at hr
  have : wr.ownsRow base e 3 v (canonV h l).length ((canonV h l).flatMap encV) := by simpa [canonV] using hr
  exact sl_of_owns encV_length (w := wr.drew) this
theorem canO_cells {w wr : World} {h : List Cel} {hv : Value} {l : List Val} {cw : Value} (hI : CI w h hv (ordL h (l.take l.length)) (mid h (ordL h (l.take l.length)) (ordL h (l.take l.length)).length) cw wr) : Sl encC 6 wr.drew cw (canonC h l) := by
  have hr := hI.row
  rw [List.take_length, mid_all] at hr
  exact sl_of_owns encC_length (w := wr.drew) hr

theorem canI_start {w w2 w3 wr : World} {h : List Cel} {hv : Value} {l : List Val} {k : Nat} {cw cw2 : Value} {O : Obj} (hk : k < l.length) (hd : Done h (ordL h (l.take k)))
    (_hI : CI w h hv (ordL h (l.take k)) (mid h (ordL h (l.take k)) (ordL h (l.take k)).length) cw wr)
    (hI2 : CI w h hv (meet h.length (ordL h (l.take k)) l[k]) (mid h (ordL h (l.take k)) (ordL h (l.take k)).length ++ ((meet h.length (ordL h (l.take k)) l[k]).drop (ordL h (l.take k)).length).map (cellAt h)) cw2 w2)
    (hown : w3.ownsRow (w.heap.size + 4) 25 3 (.slice (some ⟨w.heap.size + 4, 0, none⟩) (k + 1) l.length) (k + 1) (((l.take k).map (ren h.length (ordL h (l.take k)))).flatMap encV ++ encV (ren h.length (meet h.length (ordL h (l.take k)) l[k]) l[k])))
    (hg : (w2.alloc O).grownBy w3 (some (w.heap.size + 4))) : CanI w h hv l k (ordL h (l.take k)).length w3 := by
  have hp := meet_pre h.length (ordL h (l.take k)) l[k]
  rw [mid_more hd.2 (Nat.le_refl _) hp] at hI2
  refine ⟨?_, meet h.length (ordL h (l.take k)) l[k], cw2, meet_ok hd.1 _, hp.length_le, ?_, ?_, ?_⟩
  · rw [vals_step hk]
    simpa using hown
  · intro j i hj hi
    have h2 : (ordL h (l.take k))[j]? = some (ordL h (l.take k))[j] := List.getElem?_eq_getElem hj
    rw [getElem?_prefix hp h2] at hi
    obtain rfl := Option.some.inj hi
    exact (hd.2 j _ hj h2).mono hp
  · rw [ordL_take_succ h l k hk]; rfl
  · refine hI2.fr (S := fun j => j = w.heap.size + 4) (((Fr.refl _ w2).alloc O).grown hg (fun j hj => by left; simpa using hj.symm)) (fun j hj e => by omega) (fun j hj e => ?_)
    have := (hI2.row.lt j hj).1
    omega

theorem canI_len {w : World} {h : List Cel} {hv : Value} {l : List Val} {k d : Nat} {o : List Nat} {cw : Value} {wr : World} (hp : wr.ownsRow (w.heap.size + 4) 25 3 (.slice (some ⟨w.heap.size + 4, 0, none⟩) (k + 1) l.length) (k + 1) (((l.take (k + 1)).map (ren h.length (ordL h (l.take (k + 1))))).flatMap encV) ∧ Ok h.length o ∧ Upto h o d ∧ close h (h.length - d) o d = ordL h (l.take (k + 1)) ∧ CI w h hv o (mid h o d) cw wr)
    (hd : ¬ d < o.length) (hdo : d ≤ o.length) : Value.int .i64 (d : Int) = .int .i64 ((ordL h (l.take (k + 1))).length : Nat) := by
  obtain ⟨_, _, _, hc, _⟩ := hp
  rw [close_end (by omega)] at hc
  rw [← hc, show d = o.length by omega]
theorem canI_end {w : World} {h : List Cel} {hv : Value} {l : List Val} {k d : Nat} {o : List Nat} {cw : Value} {wr : World} (hp : wr.ownsRow (w.heap.size + 4) 25 3 (.slice (some ⟨w.heap.size + 4, 0, none⟩) (k + 1) l.length) (k + 1) (((l.take (k + 1)).map (ren h.length (ordL h (l.take (k + 1))))).flatMap encV) ∧ Ok h.length o ∧ Upto h o d ∧ close h (h.length - d) o d = ordL h (l.take (k + 1)) ∧ CI w h hv o (mid h o d) cw wr)
    (hd : ¬ d < o.length) (hdo : d ≤ o.length) : Hid (CanO w h hv l (k + 1) wr) := by
  obtain ⟨hr, _, _, hc, hI⟩ := hp
  rw [close_end (by omega)] at hc
  refine ⟨hr, cw, ?_⟩
  rw [← hc]
  rw [show d = o.length by omega] at hI
  exact hI
/-- A cell that is looked at, in the row. -/
theorem row_cell {w : World} {base g n cap : Nat} {cs : List Cel} (hr : w.ownsRow base 43 6 (.slice (some ⟨g, 0, none⟩) n cap) n (cs.flatMap encC)) {d : Nat} {x : Cel} (hx : cs[d]? = some x) (hn : cs.length = n) : ∀ j u, (encC x)[j]? = some u → w.cell? ⟨g, d * 6 + j, none⟩ = some u := by
  intro j u hu
  have h1 : d < cs.length := (List.getElem?_eq_some_iff.1 hx).1
  have h2 : j < 6 := by rw [← encC_length x]; exact (List.getElem?_eq_some_iff.1 hu).1
  rw [hr.cellAt _ (by omega)]
  exact flat_get encC 6 encC_length cs d x j u hx hu
theorem CI.left {w0 : World} {h : List Cel} {hv : Value} {o : List Nat} {d : Nat} {ca : Option Addr} {cc n : Nat} {w : World} (hI : CI w0 h hv o (mid h o d) (.slice ca n cc) w) (hd : d < o.length) :
    ∃ g, ca = some ⟨g, 0, none⟩ ∧ w.cell? ⟨g, d * 6, none⟩ = some (.int .i64 (cellAt h o[d]).l.k) ∧ w.cell? ⟨g, d * 6 + 1, none⟩ = some (.int .i64 (cellAt h o[d]).l.n) ∧ w.cell? ⟨g, d * 6 + 2, none⟩ = some (.string (cellAt h o[d]).l.t) := by
  rcases hI.row.2 with ⟨_, h0⟩ | ⟨g, c, cur, he, hr⟩
  · rw [mid_length] at h0; omega
  · obtain ⟨rfl, rfl, rfl⟩ : ca = some ⟨g, 0, none⟩ ∧ n = (mid h o d).length ∧ cc = c := by simpa using he
    have := row_cell hI.row (mid_at h o d hd) rfl
    exact ⟨g, rfl, this 0 _ rfl, this 1 _ rfl, this 2 _ rfl⟩

theorem CI.right {w0 : World} {h : List Cel} {hv : Value} {o : List Nat} {d : Nat} {ca : Option Addr} {cc n : Nat} {w : World} (hI : CI w0 h hv o (mid h o d) (.slice ca n cc) w) (hd : d < o.length) :
    ∃ g, ca = some ⟨g, 0, none⟩ ∧ w.cell? ⟨g, d * 6 + 3, none⟩ = some (.int .i64 (cellAt h o[d]).r.k) ∧ w.cell? ⟨g, d * 6 + 3 + 1, none⟩ = some (.int .i64 (cellAt h o[d]).r.n) ∧ w.cell? ⟨g, d * 6 + 3 + 2, none⟩ = some (.string (cellAt h o[d]).r.t) := by
  rcases hI.row.2 with ⟨_, h0⟩ | ⟨g, c, cur, he, hr⟩
  · rw [mid_length] at h0; omega
  · obtain ⟨rfl, rfl, rfl⟩ : ca = some ⟨g, 0, none⟩ ∧ n = (mid h o d).length ∧ cc = c := by simpa using he
    have := row_cell hI.row (mid_at h o d hd) rfl
    exact ⟨g, rfl, this 3 _ rfl, this 4 _ rfl, this 5 _ rfl⟩
theorem get_prefix {o o1 : List Nat} (hp : o <+: o1) {d : Nat} (hd : d < o.length) : o1[d]'(Nat.lt_of_lt_of_le hd hp.length_le) = o[d] := by
  obtain ⟨s, rfl⟩ := hp
  exact List.getElem_append_left hd
theorem vals_kept2 {w wr w2 : World} {h : List Cel} {hv : Value} {o : List Nat} {cs : List Cel} {cw : Value} {k c : Nat} {xs : List Value} (hr : wr.ownsRow (w.heap.size + 4) 25 3 (.slice (some ⟨w.heap.size + 4, 0, none⟩) k c) k xs) (hI : CI w h hv o cs cw wr)
    (hF : Fr (comeS w cw) wr w2) : w2.ownsRow (w.heap.size + 4) 25 3 (.slice (some ⟨w.heap.size + 4, 0, none⟩) k c) k xs := by
  refine owns_fr hr hF (fun j hj => ?_)
  have hj' : w.heap.size + 4 = j := by simpa [Value.ownBlock] using hj
  rintro (hx | hx | hx)
  · omega
  · omega
  · have := (hI.row.lt j hx).1; omega

theorem upto_more {h : List Cel} {o o' : List Nat} {d : Nat} (hu : Upto h o d) (hd : d ≤ o.length) (hp : o <+: o') : Upto h o' d := by
  intro j i hj hi
  have h2 : o[j]? = some o[j] := List.getElem?_eq_getElem (Nat.lt_of_lt_of_le hj hd)
  rw [getElem?_prefix hp h2] at hi
  obtain rfl := Option.some.inj hi
  exact (hu j _ hj h2).mono hp
theorem CI.there {w0 : World} {h : List Cel} {hv : Value} {o : List Nat} {d : Nat} {ca : Option Addr} {cc n : Nat} {w : World} (hI : CI w0 h hv o (mid h o d) (.slice ca n cc) w) (hd : d < o.length) :
    ∃ g, ca = some ⟨g, 0, none⟩ ∧ w.cell? ⟨g, d * 6, none⟩ = some (.int .i64 (cellAt h o[d]).l.k) ∧ w.cell? ⟨g, d * 6 + 1, none⟩ = some (.int .i64 (cellAt h o[d]).l.n) ∧ w.cell? ⟨g, d * 6 + 2, none⟩ = some (.string (cellAt h o[d]).l.t) ∧ w.cell? ⟨g, d * 6 + 3, none⟩ = some (.int .i64 (cellAt h o[d]).r.k) ∧ w.cell? ⟨g, d * 6 + 4, none⟩ = some (.int .i64 (cellAt h o[d]).r.n) ∧ w.cell? ⟨g, d * 6 + 5, none⟩ = some (.string (cellAt h o[d]).r.t) ∧
      w.frozen? ⟨g, d * 6, none⟩ = false ∧ w.frozen? ⟨g, d * 6 + 1, none⟩ = false ∧ w.frozen? ⟨g, d * 6 + 2, none⟩ = false ∧ w.frozen? ⟨g, d * 6 + 3, none⟩ = false ∧ w.frozen? ⟨g, d * 6 + 4, none⟩ = false ∧ w.frozen? ⟨g, d * 6 + 5, none⟩ = false := by
  rcases hI.row.2 with ⟨_, h0⟩ | ⟨g, c, cur, he, hr⟩
  · rw [mid_length] at h0; omega
  · obtain ⟨rfl, rfl, rfl⟩ : ca = some ⟨g, 0, none⟩ ∧ n = (mid h o d).length ∧ cc = c := by simpa using he
    have := row_cell hI.row (mid_at h o d hd) rfl
    exact ⟨g, rfl, this 0 _ rfl, this 1 _ rfl, this 2 _ rfl, this 3 _ rfl, this 4 _ rfl, this 5 _ rfl, hI.row.frozenAt _, hI.row.frozenAt _, hI.row.frozenAt _, hI.row.frozenAt _, hI.row.frozenAt _, hI.row.frozenAt _⟩

theorem canI_step {w wr w5 : World} {h : List Cel} {hv : Value} {l : List Val} {k d : Nat} {o o1 o2 : List Nat} {cw : Value} {g5 cc5 : Nat} {rl rr : Val} (hd : d < o.length) (_hdo : d ≤ o.length)
    (hp : wr.ownsRow (w.heap.size + 4) 25 3 (.slice (some ⟨w.heap.size + 4, 0, none⟩) (k + 1) l.length) (k + 1) (((l.take (k + 1)).map (ren h.length (ordL h (l.take (k + 1))))).flatMap encV) ∧ Ok h.length o ∧ Upto h o d ∧ close h (h.length - d) o d = ordL h (l.take (k + 1)) ∧ CI w h hv o (mid h o d) cw wr)
    (ho1 : o1 = meet h.length o (cellAt h o[d]).l) (hrl : rl = ren h.length o1 (cellAt h o[d]).l) (ho2 : o2 = meet h.length o1 (cellAt h o[d]).r)
    (hr5 : w5.ownsRow (w.heap.size + 4) 25 3 (.slice (some ⟨w.heap.size + 4, 0, none⟩) (k + 1) l.length) (k + 1) (((l.take (k + 1)).map (ren h.length (ordL h (l.take (k + 1))))).flatMap encV))
    (hI5 : CI w h hv o2 (mid h o2 d) (.slice (some ⟨g5, 0, none⟩) (mid h o2 d).length cc5) w5) (hrr : rr = ren h.length o2 (cellAt h o[d]).r) (O : Obj) (w6 : World) (e6 : w6 = (((((((w5.setCell ⟨g5, d * 6, none⟩ (.int .i64 rl.k)).setCell ⟨g5, d * 6 + 1, none⟩ (.int .i64 rl.n)).setCell ⟨g5, d * 6 + 2, none⟩ (.string rl.t)).setCell ⟨g5, d * 6 + 3, none⟩ (.int .i64 rr.k)).setCell ⟨g5, d * 6 + 4, none⟩ (.int .i64 rr.n)).setCell ⟨g5, d * 6 + 5, none⟩ (.string rr.t)).alloc O)) :
    Hid (CanI w h hv l k (d + 1) w6) := by
  obtain ⟨_, hok, hup, hcl, _⟩ := hp
  have e2 : o2 = meetC h o o[d] := by rw [ho2, ho1]; rfl
  have hpre : o <+: o2 := by rw [e2]; exact meetC_pre _ _ _
  have hd2 : d < o2.length := Nat.lt_of_lt_of_le hd hpre.length_le
  have hod : o2[d] = o[d] := get_prefix hpre hd
  have hrc : renC h o2 o2[d] = ⟨rl, rr⟩ := by
    rw [hod, e2, renC_two, hrl, hrr, ho1, e2]
  have hrow : w6.ownsRow (w.heap.size + 5) 43 6 (.slice (some ⟨g5, 0, none⟩) (mid h o2 d).length cc5) (mid h o2 d).length (((mid h o2 d).set d ⟨rl, rr⟩).flatMap encC) := by
    subst e6
    exact (owns_store6 hI5.row rfl d (by rw [mid_length]; exact hd2) ⟨rl, rr⟩).alloc O
  rw [← hrc, mid_set h o2 d hd2] at hrow
  have hg5 : w.heap.size + 5 ≤ g5 ∧ g5 < w5.heap.size := hI5.row.lt g5 rfl
  have F : Fr (fun j => j = g5) w5 w6 := by
    subst e6
    refine Fr.alloc (Fr.setCell (Fr.setCell (Fr.setCell (Fr.setCell (Fr.setCell (Fr.setCell (Fr.refl _ _) ?_ _) ?_ _) ?_ _) ?_ _) ?_ _) ?_ _) O
    all_goals exact .inl rfl
  refine ⟨owns_fr hr5 F (fun j hj e => ?_), o2, .slice (some ⟨g5, 0, none⟩) (mid h o2 d).length cc5, by rw [e2]; exact meetC_ok hok _, hd2, by rw [e2]; exact upto_step hup (List.getElem?_eq_getElem hd), ?_, ?_⟩
  · have : w.heap.size + 4 = j := by simpa [Value.ownBlock] using hj
    omega
  · rw [← hcl, close_go hok.le hd, e2]
    simp [List.getD_eq_getElem?_getD, List.getElem?_eq_getElem hd]
  · have hb := hI5.big
    obtain ⟨D, hD, hIs⟩ := hI5.map
    have n4 : ∀ j, j < w.heap.size + 4 → ¬ j = g5 := fun j hj e => by omega
    have hl : (mid h o2 d).length = (mid h o2 (d + 1)).length := by rw [mid_length, mid_length]
    exact { old := hI5.old.trans (F.below (by omega) (fun j hj => n4 j (by omega))), big := Nat.le_trans hb F.size, hbox := (F.cell (p := ⟨w.heap.size, 0, none⟩) (by show w.heap.size < _; omega) (n4 _ (by show w.heap.size < _; omega))).trans hI5.hbox, hfz := (F.frozen (p := ⟨w.heap.size, 0, none⟩) (by show w.heap.size < _; omega) (n4 _ (by show w.heap.size < _; omega))).trans hI5.hfz, cbox := (F.cell (p := ⟨w.heap.size + 1, 0, none⟩) (by show w.heap.size + 1 < _; omega) (n4 _ (by show w.heap.size + 1 < _; omega))).trans hI5.cbox, cfz := (F.frozen (p := ⟨w.heap.size + 1, 0, none⟩) (by show w.heap.size + 1 < _; omega) (n4 _ (by show w.heap.size + 1 < _; omega))).trans hI5.cfz, nbox := (F.cell (p := ⟨w.heap.size + 3, 0, none⟩) (by show w.heap.size + 3 < _; omega) (n4 _ (by show w.heap.size + 3 < _; omega))).trans hI5.nbox, row := by rw [← hl]; exact hrow, len := mid_length _ _ _, map := ⟨D, map_fr hD F (n4 _ (by omega)), hIs⟩ }

theorem canO_start {w w1 : World} {h : List Cel} {l : List Val} {hv : Value} (hown : w1.ownsRow (w.heap.size + 4) 25 3 (.slice (some ⟨w.heap.size + 4, 0, none⟩) 0 l.length) 0 [])
    (hg : (((((w.alloc (.cells #[hv] 22)).alloc (.cells #[.slice none 0 0] 22)).alloc (.map #[] 0)).alloc (.cells #[.map (some (w.heap.size + 2))] 52))).grownBy w1 none) (hsz : w.heap.size + 5 ≤ w1.heap.size) : CanO w h hv l 0 w1 := by
  have F : Fr nothing (((((w.alloc (.cells #[hv] 22)).alloc (.cells #[.slice none 0 0] 22)).alloc (.map #[] 0)).alloc (.cells #[.map (some (w.heap.size + 2))] 52))) w1 := (Fr.refl _ _).grown hg (fun k hk => by cases hk)
  refine ⟨by simpa [ordL] using hown, .slice none 0 0, ?_⟩
  have e : ordL h (l.take 0) = [] := rfl
  rw [e]
  refine { old := (((((Below.refl _ w).alloc (Nat.le_refl _) _).alloc (by simp) _).alloc (by simp; try omega) _).alloc (by simp; try omega) _).trans (F.below (by simp; try omega) (fun _ _ => id)), big := hsz, hbox := (F.cell (p := ⟨w.heap.size, 0, none⟩) (by simp; try omega) id).trans ?_, hfz := (F.frozen (p := ⟨w.heap.size, 0, none⟩) (by simp; try omega) id).trans ?_, cbox := (F.cell (p := ⟨w.heap.size + 1, 0, none⟩) (by simp; try omega) id).trans ?_, cfz := (F.frozen (p := ⟨w.heap.size + 1, 0, none⟩) (by simp; try omega) id).trans ?_, nbox := (F.cell (p := ⟨w.heap.size + 3, 0, none⟩) (by simp) id).trans ?_, row := by simpa [mid] using World.ownsRow_nil _ _ _ _, len := rfl, map := ⟨.map [], map_fr ?_ F id, Maps.isMap_empty, fun i _ => ⟨by simp [Maps.has], fun hm => by simp at hm⟩⟩ }
  · rw [World.cell?_alloc_past _ _ _ (by simp; try omega), World.cell?_alloc_past _ _ _ (by simp; try omega), World.cell?_alloc_past _ _ _ (by simp), World.cell?_alloc_new]; try rfl
  · rw [World.frozen?_alloc_past _ _ _ (by simp; try omega), World.frozen?_alloc_past _ _ _ (by simp; try omega), World.frozen?_alloc_past _ _ _ (by simp), World.frozen?_alloc_new]
  · rw [World.cell?_alloc_past _ _ _ (by simp; try omega), World.cell?_alloc_past _ _ _ (by simp), World.cell?_alloc_at _ _ _ _ (by simp)]; try rfl
  · rw [World.frozen?_alloc_past _ _ _ (by simp; try omega), World.frozen?_alloc_past _ _ _ (by simp), World.frozen?_alloc_at _ _ _ _ (by simp)]
  · rw [World.cell?_alloc_at _ _ _ _ (by simp)]; try rfl
  · have := World.ownsMap_made ((w.alloc (.cells #[hv] 22)).alloc (.cells #[.slice none 0 0] 22)) Tryd.prog 3 (plainElem (H := Unit) Tryd.prog 3)
    simpa using this.alloc (.cells #[.map (some (w.heap.size + 2))] 52)

set_option maxHeartbeats 400000 in
theorem canon_any (cl : List Cel) (vl : List Val) (hv lv : Value) (w : World) (hh : Sl encC 6 w hv cl) (hl : Sl encV 3 w lv vl) (hmh : cl.length * 64 ≤ 140737488351232) (hml : vl.length * 32 ≤ 140737488351232) :
    Calls Tryd.prog 15 #[hv, lv] w fun e w' => ∃ xv kv, e = .returned (.tuple #[xv, kv]) ∧ Sl encV 3 w' xv (canonV cl vl) ∧ Sl encC 6 w' kv (canonC cl vl) ∧ Below w.heap.size w w' := by
  obtain ⟨la, lc, rfl, hll, q1⟩ := id hl
  obtain ⟨ha, hcp, rfl, hhl, q2⟩ := id hh
  clear q1 q2
  have HH := hide hh
  have HL := hide hl
  clear hh hl
  obtain ⟨i0, hi0, hz0, hz1, hz2⟩ := info_parts size25
  have hmm := @run_makeMap Tryd.prog
  go_enter Tryd.func15, Tryd.ntmps15
  unfold maxLen at hll hhl
  go_wp2_with (at_make; refine wpList_make_own _ rfl _ _ 23 rfl (w.heap.size + 4) 25 i0 _ 3 Tryd.underlying23 hi0 hz0 hz1 .i64 .i64 _ vl.length rfl rfl rfl (by rw [hz2]; omega) (by unfold maxLen; omega) (by simp) ?_; intro w1 hown1 hgrow1)
  have e4 : ((((w.alloc (Obj.cells #[Value.slice ha cl.length hcp] 22)).alloc (Obj.cells #[Value.slice none 0 0] 22)).alloc (Obj.map #[] 0)).alloc (Obj.cells #[Value.map (some (w.heap.size + 1 + 1))] 52)).heap.size = w.heap.size + 4 := by simp
  rw [e4] at hown1
  have HS : Hid (CanO w cl (.slice ha cl.length hcp) vl 0 w1) := canO_start hown1 hgrow1 (by have h4 : w.heap.size + 4 < w1.heap.size := (hown1.lt _ rfl).2; omega)
  clear e4
  clear hown1 hgrow1 hmm
  go_loopw [9, 10, 22] (fun v9 v10 v22 wr => ∃ k : Nat, k ≤ vl.length ∧ v22 = .int .i64 k ∧ v9 = .slice (some ⟨w.heap.size + 4, 0, none⟩) k vl.length ∧ v10 = .int .i64 ((ordL cl (vl.take k)).length : Nat) ∧ Hid (CanO w cl (.slice ha cl.length hcp) vl k wr)) (fun _ _ i _ => vl.length - (intOf i).toNat)
  case atStart => exact ⟨0, Nat.zero_le _, rfl, rfl, rfl, HS⟩
  case round =>
    obtain ⟨k, hk, rfl, rfl, rfl, hC⟩ := hrel
    clear HS
    by_cases hlt : k < vl.length
    · obtain ⟨hrow, cw, hI⟩ := hC.out
      have HR := hide hrow
      have HI := hide hI
      obtain ⟨b, off, cap, he, hb, x0, x1, x2⟩ := vals_of_sl HL.out hlt
      obtain ⟨rfl, rfl⟩ : la = some ⟨b, off, none⟩ ∧ lc = cap := by simpa using he
      rw [← hI.old.cell (p := ⟨b, _, none⟩) hb] at x0 x1 x2
      have hB : w.heap.size + 5 ≤ wr.heap.size := hI.big
      clear hrow hI hC he
      have HO := hide (ordL_done cl (vl.take k))
      go_wp2_with (first
        | (go_at_call 30; refine (come_any w cl (.slice ha cl.length hcp) _ _ _ _ vl[k] (HI.out.fr ((Fr.refl nothing _).alloc _) (fun _ _ => id) (fun _ _ => id)) HH.out hmh HO.out.1).mono ?_; rintro e w2 ⟨rfl, ⟨cw2, hI2⟩, hF2⟩; have hr2 := vals_kept HR.out HI.out hF2; generalize hrv : ren cl.length (meet cl.length (ordL cl (List.take k vl)) vl[k]) vl[k] = rv at *; have HRV := hide hrv; clear hrv)
        | (at_builtin; refine wpList_append_fits _ rfl _ _ 23 rfl (w.heap.size + 4) 25 i0 3 Tryd.underlying23 hi0 hz1 (w.heap.size + 4) k vl.length _ rfl (hr2.alloc _) ⟨w2.heap.size, 0, none⟩ 1 1 (encV rv) rfl rfl (newV _ _ _) (encV_one _) (by omega) ?_; intro w3 hown3 hgrow3))
      have HS2 : Hid (CanI w cl (.slice ha cl.length hcp) vl k (ordL cl (vl.take k)).length w3) := canI_start hlt HO.out HI.out hI2 (by rw [HRV.out]; exact hown3) hgrow3
      have hOl : (ordL cl (vl.take k)).length ≤ cl.length := HO.out.1.le
      clear hown3 hgrow3 hI2 hF2 hr2 HRV HI HR x0 x1 x2
      go_loopw [10] (fun v10 wi => ∃ d : Nat, v10 = .int .i64 d ∧ d ≤ cl.length ∧ Hid (CanI w cl (.slice ha cl.length hcp) vl k d wi)) (fun i _ => cl.length - (intOf i).toNat)
      case atStart => exact ⟨_, rfl, hOl, HS2⟩
      case round =>
        obtain ⟨d, rfl, hdc, hC2⟩ := hrel
        clear HS2
        obtain ⟨hrow, o, cw', hok, hdo, hup, hcl, hI3⟩ := hC2.out
        obtain ⟨ca, cc, rfl⟩ := hI3.shape
        have hcb := hI3.cbox
        have hlen := mid_length cl o d
        rw [hlen] at hcb
        have hB3 := hI3.big
        have hol := hok.le
        have HP := hide (And.intro hrow (And.intro hok (And.intro hup (And.intro hcl hI3))))
        clear hrow hok hup hcl hI3 hC2 hlen
        by_cases hd : d < o.length
        · obtain ⟨g, rfl, y0, y1, y2⟩ := HP.out.2.2.2.2.left hd
          go_wp2_with fail
          refine (come_any w cl (.slice ha cl.length hcp) _ _ _ _ (cellAt cl o[d]).l HP.out.2.2.2.2 HH.out hmh HP.out.2.1).mono ?_
          rintro e w4 ⟨rfl, ⟨cw4, hI4⟩, hF4⟩
          obtain ⟨o1, ho1⟩ : ∃ o1, o1 = meet cl.length o (cellAt cl o[d]).l := ⟨_, rfl⟩
          have hp1 : o <+: o1 := by rw [ho1]; exact meet_pre _ _ _
          have hok1 : Ok cl.length o1 := by rw [ho1]; exact meet_ok HP.out.2.1 _
          have hr4 := vals_kept2 HP.out.1 HP.out.2.2.2.2 hF4
          rw [mid_more HP.out.2.2.1 hdo (by rw [← ho1]; exact hp1), ← ho1] at hI4
          obtain ⟨rl, hrl⟩ : ∃ rl, rl = ren cl.length o1 (cellAt cl o[d]).l := ⟨_, rfl⟩
          rw [← ho1, ← hrl]
          have hd1 : d < o1.length := Nat.lt_of_lt_of_le hd hp1.length_le
          have hod : o1[d] = o[d] := get_prefix hp1 hd
          obtain ⟨ca4, cc4, rfl⟩ := hI4.shape
          obtain ⟨g4, rfl, z3, z4, z5⟩ := hI4.right hd1
          have hcb4 := hI4.cbox
          rw [hod] at z3 z4 z5
          rw [mid_length] at hcb4
          have hB4 := hI4.big
          have ho1l := hok1.le
          have g4lt : g4 < w4.heap.size := lt_of_cell z3
          have b4lt : w.heap.size + 1 < w4.heap.size := by omega
          have H4 := hide (And.intro ho1 (And.intro hp1 (And.intro hok1 (And.intro hr4 (And.intro hI4 (And.intro hrl hod))))))
          clear ho1 hp1 hok1 hr4 hI4 hF4 hrl hod y0 y1 y2 hcb
          go_wp2_with fail
          refine (come_any w cl (.slice ha cl.length hcp) _ _ _ _ (cellAt cl o[d]).r (H4.out.2.2.2.2.1.fr ((Fr.refl nothing _).alloc _) (fun _ _ => id) (fun _ _ => id)) HH.out hmh H4.out.2.2.1).mono ?_
          rintro e w5 ⟨rfl, ⟨cw5, hI5⟩, hF5⟩
          obtain ⟨o2, ho2⟩ : ∃ o2, o2 = meet cl.length o1 (cellAt cl o[d]).r := ⟨_, rfl⟩
          have hp2 : o1 <+: o2 := by rw [ho2]; exact meet_pre _ _ _
          have hr5 := vals_kept H4.out.2.2.2.1 H4.out.2.2.2.2.1 hF5
          rw [mid_more (upto_more HP.out.2.2.1 hdo H4.out.2.1) (Nat.le_of_lt hd1) (by rw [← ho2]; exact hp2), ← ho2] at hI5
          obtain ⟨rr, hrr⟩ : ∃ rr, rr = ren cl.length o2 (cellAt cl o[d]).r := ⟨_, rfl⟩
          rw [← ho2, ← hrr]
          have hd2 : d < o2.length := Nat.lt_of_lt_of_le hd1 hp2.length_le
          obtain ⟨ca5, cc5, rfl⟩ := hI5.shape
          obtain ⟨g5, rfl, s0, s1, s2, s3, s4, s5, s6, s7, s8, s9, s10, s11⟩ := hI5.there hd2
          have hcb5 := hI5.cbox
          rw [mid_length] at hcb5
          have hB5 := hI5.big
          have hsz5 : w4.heap.size + 1 ≤ w5.heap.size := by have := hF5.size; simpa using this
          have g5lt : g5 < w5.heap.size := lt_of_cell s0
          have b5lt : w.heap.size + 1 < w5.heap.size := by omega
          have hl5 : w4.heap.size < w5.heap.size := by omega
          have nS : ¬ comeS w (.slice (some ⟨g4, 0, none⟩) (mid cl o1 d).length cc4) w4.heap.size := by
            rintro (hx | hx | hx)
            · omega
            · omega
            · simp [Value.ownBlock] at hx; omega
          have t0 := (hF5.cell (p := ⟨w4.heap.size, 0, none⟩) (by simp) nS).trans (World.cell?_alloc_new _ _ _ _)
          have t1 := (hF5.cell (p := ⟨w4.heap.size, 1, none⟩) (by simp) nS).trans (World.cell?_alloc_new _ _ _ _)
          have t2 := (hF5.cell (p := ⟨w4.heap.size, 2, none⟩) (by simp) nS).trans (World.cell?_alloc_new _ _ _ _)
          simp only [List.getElem?_toArray, List.getElem?_cons_zero, List.getElem?_cons_succ] at t0 t1 t2
          have H5 := hide (And.intro ho2 (And.intro hp2 (And.intro hr5 (And.intro hI5 hrr))))
          clear ho2 hp2 hr5 hI5 hF5 hrr z3 z4 z5 hcb4 nS
          go_wp2
          go_roundw
          case rel => exact ⟨d + 1, by go_num, by omega, canI_step hd hdo HP.out H4.out.1 H4.out.2.2.2.2.2.1 H5.out.1 H5.out.2.2.1 H5.out.2.2.2.1 H5.out.2.2.2.2 _ _ rfl⟩
          case measure => simp [intOf]; omega
        · go_wp2
          go_roundw
          case rel => exact ⟨k + 1, by omega, by go_num, rfl, canI_len HP.out hd hdo, canI_end HP.out hd hdo⟩
          case measure => simp [intOf]; omega
    · obtain rfl : k = vl.length := by omega
      obtain ⟨hrow, cw, hI⟩ := hC.out
      have hcb := hI.cbox
      have HR := hide hrow
      have HI := hide hI
      clear hrow hI hC
      go_wp2
      go_region
      all_goals go_wp2
      all_goals go_ret2
      all_goals
        exact ⟨_, cw, rfl, canO_vals HR.out, canO_cells HI.out, HI.out.old.drew⟩
end Go.Proofs.YtcemfgknnpjlhaaDoor
