/- Lists and worlds on the way of Canon. -/
import Derived.Test.YtcemfgknnpjlhaaDoorCome
namespace Go.Proofs.YtcemfgknnpjlhaaDoor
open Go.RowKit Go.Ws

/-- The cells as they lie while d of them have been looked at. -/
def mid (h : List Cel) (o : List Nat) (d : Nat) : List Cel := (o.take d).map (renC h o) ++ (o.drop d).map (cellAt h)
theorem mid_length (h : List Cel) (o : List Nat) (d : Nat) : (mid h o d).length = o.length := by
  simp [mid]; omega
theorem mid_all (h : List Cel) (o : List Nat) : mid h o o.length = o.map (renC h o) := by simp [mid]
theorem mid_at (h : List Cel) (o : List Nat) (d : Nat) (hd : d < o.length) : (mid h o d)[d]? = some (cellAt h o[d]) := by
  unfold mid
  rw [List.getElem?_append_right (by simp; omega)]
  simp [List.getElem?_drop, Nat.min_eq_left (Nat.le_of_lt hd), List.getElem?_eq_getElem hd]
theorem mid_more {h : List Cel} {o o' : List Nat} {d : Nat} (hu : Upto h o d) (hd : d ≤ o.length) (hp : o <+: o') : mid h o d ++ (o'.drop o.length).map (cellAt h) = mid h o' d := by
  obtain ⟨s, rfl⟩ := hp
  unfold mid
  rw [List.take_append_of_le_length hd, List.drop_append_of_le_length hd, List.drop_left, List.map_append, List.append_assoc]
  congr 1
  refine List.map_congr_left fun i hi => ?_
  obtain ⟨j, hj, rfl⟩ := List.getElem_of_mem hi
  have h1 : j < d := by simp at hj; omega
  have h2 : j < o.length := by omega
  have h3 : o[j]? = some o[j] := List.getElem?_eq_getElem h2
  rw [List.getElem_take]
  exact (renC_prefix (List.prefix_append o s) (hu j _ h1 h3)).symm
theorem mid_set (h : List Cel) (o : List Nat) (d : Nat) (hd : d < o.length) : (mid h o d).set d (renC h o o[d]) = mid h o (d + 1) := by
  unfold mid
  have e : d - ((o.take d).map (renC h o)).length = 0 := by simp; omega
  rw [List.set_append_right _ _ (by simp; omega), e, List.take_succ_eq_append_getElem hd, List.drop_eq_getElem_cons hd, List.map_cons, List.set_cons_zero, List.map_append, List.append_assoc]
  rfl
theorem ordL_take_succ (h : List Cel) (l : List Val) (k : Nat) (hk : k < l.length) : ordL h (l.take (k + 1)) = stepV h (ordL h (l.take k)) (l[k]) := by
  rw [List.take_succ_eq_append_getElem hk, ordL_snoc]
theorem renC_two {h : List Cel} {o : List Nat} {i : Nat} : renC h (meetC h o i) i = ⟨ren h.length (meet h.length o (cellAt h i).l) (cellAt h i).l, ren h.length (meetC h o i) (cellAt h i).r⟩ := by
  unfold renC meetC
  rw [ren_prefix (meet_pre _ (meet h.length o (cellAt h i).l) _) (fun x => meet_mem _ x)]
/-- The values told so far, by what is come to now. -/
theorem vals_step {h : List Cel} {l : List Val} {k : Nat} (hk : k < l.length) : (l.take (k + 1)).map (ren h.length (ordL h (l.take (k + 1)))) = (l.take k).map (ren h.length (ordL h (l.take k))) ++ [ren h.length (meet h.length (ordL h (l.take k)) l[k]) l[k]] := by
  have hp : meet h.length (ordL h (l.take k)) l[k] <+: ordL h (l.take (k + 1)) := by
    rw [ordL_take_succ h l k hk]
    exact close_pre _ _ _
  have hp0 : ordL h (l.take k) <+: ordL h (l.take (k + 1)) := (meet_pre _ _ _).trans hp
  conv => lhs; arg 2; rw [List.take_succ_eq_append_getElem hk]
  rw [List.map_append, List.map_cons, List.map_nil]
  congr 1
  · refine List.map_congr_left fun v hv => ren_prefix hp0 (fun hr => ordL_mem hv hr)
  · rw [ren_prefix hp (fun hr => meet_mem _ hr)]

theorem CI.fr {w0 : World} {h : List Cel} {hv : Value} {o : List Nat} {cs : List Cel} {cw : Value} {w w' : World} {S : Nat → Prop} (hI : CI w0 h hv o cs cw w) (hf : Fr S w w') (hs : ∀ k, k < w0.heap.size + 4 → ¬ S k) (ho : ∀ k, cw.ownBlock = some k → ¬ S k) :
    CI w0 h hv o cs cw w' := by
  have hb := hI.big
  obtain ⟨D, hD, hIs⟩ := hI.map
  exact { old := hI.old.trans (hf.below (by omega) (fun k hk => hs k (by omega))), big := Nat.le_trans hb hf.size, hbox := (hf.cell (p := ⟨w0.heap.size, 0, none⟩) (by show w0.heap.size < _; omega) (hs _ (by show w0.heap.size < _; omega))).trans hI.hbox, hfz := (hf.frozen (p := ⟨w0.heap.size, 0, none⟩) (by show w0.heap.size < _; omega) (hs _ (by show w0.heap.size < _; omega))).trans hI.hfz, cbox := (hf.cell (p := ⟨w0.heap.size + 1, 0, none⟩) (by show w0.heap.size + 1 < _; omega) (hs _ (by show w0.heap.size + 1 < _; omega))).trans hI.cbox, cfz := (hf.frozen (p := ⟨w0.heap.size + 1, 0, none⟩) (by show w0.heap.size + 1 < _; omega) (hs _ (by show w0.heap.size + 1 < _; omega))).trans hI.cfz, nbox := (hf.cell (p := ⟨w0.heap.size + 3, 0, none⟩) (by show w0.heap.size + 3 < _; omega) (hs _ (by show w0.heap.size + 3 < _; omega))).trans hI.nbox, row := owns_fr hI.row hf ho, len := hI.len, map := ⟨D, map_fr hD hf (hs _ (by omega)), hIs⟩ }

theorem flat_set6 (x : Cel) : ∀ (cs : List Cel) (d : Nat), d < cs.length → ((((((cs.flatMap encC).set (d * 6) (.int .i64 x.l.k)).set (d * 6 + 1) (.int .i64 x.l.n)).set (d * 6 + 2) (.string x.l.t)).set (d * 6 + 3) (.int .i64 x.r.k)).set (d * 6 + 4) (.int .i64 x.r.n)).set (d * 6 + 5) (.string x.r.t) = (cs.set d x).flatMap encC
  | [], d, hd => absurd hd (by simp)
  | y :: cs, 0, _ => by simp [encC]
  | y :: cs, d + 1, hd => by
    have ih := flat_set6 x cs d (by simpa using hd)
    rw [List.flatMap_cons, List.set_cons_succ, List.flatMap_cons, ← ih]
    have e : ∀ (a : List Value) (j : Nat) (u : Value), (encC y ++ a).set ((d + 1) * 6 + j) u = encC y ++ a.set (d * 6 + j) u := by
      intro a j u
      rw [List.set_append_right _ _ (by rw [encC_length]; omega), encC_length]
      congr 2
      omega
    have e0 := e (cs.flatMap encC) 0
    simp only [Nat.add_zero] at e0
    rw [e0, e, e, e, e, e]

theorem owns_store6 {w : World} {base g n cap : Nat} {cs : List Cel} (h : w.ownsRow base 43 6 (.slice (some ⟨g, 0, none⟩) n cap) n (cs.flatMap encC)) (hn : cs.length = n) (d : Nat) (hd : d < n) (x : Cel) :
    ((((((w.setCell ⟨g, d * 6, none⟩ (.int .i64 x.l.k)).setCell ⟨g, d * 6 + 1, none⟩ (.int .i64 x.l.n)).setCell ⟨g, d * 6 + 2, none⟩ (.string x.l.t)).setCell ⟨g, d * 6 + 3, none⟩ (.int .i64 x.r.k)).setCell ⟨g, d * 6 + 4, none⟩ (.int .i64 x.r.n)).setCell ⟨g, d * 6 + 5, none⟩ (.string x.r.t)).ownsRow base 43 6 (.slice (some ⟨g, 0, none⟩) n cap) n ((cs.set d x).flatMap encC) := by
  rw [← flat_set6 x cs d (by omega)]
  exact ((((((h.stored _ _).1.stored _ _).1.stored _ _).1.stored _ _).1.stored _ _).1.stored _ _).1
end Go.Proofs.YtcemfgknnpjlhaaDoor
