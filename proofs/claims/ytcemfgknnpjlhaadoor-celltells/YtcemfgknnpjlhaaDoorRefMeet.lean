/- The document's Canon: its closures. -/
import Derived.Test.YtcemfgknnpjlhaaDoorAgain
namespace Go.Proofs.YtcemfgknnpjlhaaDoor
open Go.RowKit Go.Ws

theorem size3 : (Tryd.prog.info? 3).map (fun i => (i.zero, i.size, i.bytes)) = some (some (.int .i64 0), 1, 8) := by kernel_rfl
/-- The place of cell i. -/
def pl (o : List Nat) (i : Nat) : Int := if i ∈ o then (o.idxOf i : Nat) else -1
def placeL (n : Nat) (o : List Nat) : List Value := (List.range n).map fun i => .int .i64 (pl o i)
def orderL (o : List Nat) : List Value := o.map fun i => .int .i64 (i : Nat)
theorem pl_new {o : List Nat} {i : Nat} (h : i ∉ o) : pl o i = -1 := by simp [pl, h]
theorem pl_old {o : List Nat} {i : Nat} (h : i ∈ o) : pl o i = (o.idxOf i : Nat) := by simp [pl, h]
theorem placeL_length (n : Nat) (o : List Nat) : (placeL n o).length = n := by simp [placeL]
theorem placeL_get {n : Nat} {o : List Nat} {i : Nat} (h : i < n) : (placeL n o)[i]? = some (.int .i64 (pl o i)) := by simp [placeL, h]
theorem pl_snoc {o : List Nat} {i j : Nat} (h : i ∉ o) : pl (o ++ [i]) j = if j = i then (o.length : Int) else pl o j := by
  unfold pl
  by_cases e : j = i
  · subst e
    rw [if_pos (by simp), if_pos rfl, List.idxOf_append, if_neg h]
    simp
  · rw [if_neg e]
    by_cases hm : j ∈ o
    · rw [if_pos (by simp [hm]), if_pos hm, List.idxOf_append, if_pos hm]
    · rw [if_neg (by simp [hm, e]), if_neg hm]
theorem placeL_set {n : Nat} {o : List Nat} {i : Nat} (h : i ∉ o) (_hi : i < n) : (placeL n o).set i (.int .i64 (o.length : Nat)) = placeL n (o ++ [i]) := by
  apply List.ext_getElem?
  intro j
  by_cases hj : j < n
  · rw [placeL_get hj, pl_snoc h]
    by_cases e : j = i
    · subst e
      rw [List.getElem?_set_self (by rw [placeL_length]; exact hj), if_pos rfl]
    · rw [List.getElem?_set_ne (fun x => e x.symm), placeL_get hj, if_neg e]
  · rw [List.getElem?_eq_none (by simp [placeL_length]; omega), List.getElem?_eq_none (by rw [placeL_length]; omega)]

theorem newI (w : World) (x : Int) (t : TypeId) {b : Nat} (hb : b = w.heap.size) : ∀ j u, ([.int .i64 x] : List Value)[j]? = some u → (w.alloc (.cells #[.int .i64 x] t)).cell? ((⟨b, 0, none⟩ : Addr).add j) = some u := by
  subst hb
  exact World.news_of_block (cs := #[.int .i64 x]) (t := t) (fr := (0, 0)) (heap_new _ _)

structure RI (w0 : World) (n : Nat) (o : List Nat) (ow : Value) (w : World) : Prop where
  old : Below w0.heap.size w0 w
  big : w0.heap.size + 3 ≤ w.heap.size
  pbox : w.cell? ⟨w0.heap.size + 1, 0, none⟩ = some (.slice (some ⟨w0.heap.size, 0, none⟩) n n)
  place : w.ownsRow w0.heap.size 3 1 (.slice (some ⟨w0.heap.size, 0, none⟩) n n) n (placeL n o)
  obox : w.cell? ⟨w0.heap.size + 2, 0, none⟩ = some ow
  ofz : w.frozen? ⟨w0.heap.size + 2, 0, none⟩ = false
  row : w.ownsRow (w0.heap.size + 3) 3 1 ow o.length (orderL o)
theorem RI.shape {w0 : World} {n : Nat} {o : List Nat} {ow : Value} {w : World} (h : RI w0 n o ow w) : ∃ oa oc, ow = .slice oa o.length oc := by
  rcases h.row.2 with ⟨h0, h1⟩ | ⟨g, cap, cur, h0, _⟩
  · exact ⟨none, 0, by rw [h0, h1]⟩
  · exact ⟨_, cap, h0⟩
theorem RI.fr {w0 : World} {n : Nat} {o : List Nat} {ow : Value} {w w' : World} (h : RI w0 n o ow w) (hf : Fr nothing w w') : RI w0 n o ow w' := by
  have hb := h.big
  exact ⟨h.old.trans (hf.below (by omega) (fun _ _ => id)), Nat.le_trans hb hf.size, (hf.cell (p := ⟨w0.heap.size + 1, 0, none⟩) (by show w0.heap.size + 1 < _; omega) id).trans h.pbox, owns_fr h.place hf (fun _ _ => id), (hf.cell (p := ⟨w0.heap.size + 2, 0, none⟩) (by show w0.heap.size + 2 < _; omega) id).trans h.obox, (hf.frozen (p := ⟨w0.heap.size + 2, 0, none⟩) (by show w0.heap.size + 2 < _; omega) id).trans h.ofz, owns_fr h.row hf (fun _ _ => id)⟩
theorem RI.cell {w0 : World} {n : Nat} {o : List Nat} {ow : Value} {w : World} (h : RI w0 n o ow w) {i : Nat} (hi : i < n) : w.cell? ⟨w0.heap.size, i, none⟩ = some (.int .i64 (pl o i)) := by
  rw [h.place.cellAt _ (by omega)]
  exact placeL_get hi

set_option maxHeartbeats 400000 in
theorem meet_no (w0 : World) (n : Nat) (o : List Nat) (ow : Value) (w : World) (v : Val) (hI : RI w0 n o ow w) (hk : v.k ≠ 2) :
    Calls Tryd.prog 31 #[vv v, .pointer (some ⟨w0.heap.size + 1, 0, none⟩), .pointer (some ⟨w0.heap.size + 2, 0, none⟩)] w fun e w' => e = .returned (.tuple #[]) ∧ ∃ ow', RI w0 n o ow' w' := by
  have hk' : (v.k == 2) = false := by simpa using hk
  have HI := hide hI
  clear hk hI
  go_enter Tryd.func31, Tryd.ntmps31
  go_wp2
  all_goals go_end0
  all_goals exact ⟨rfl, ow, HI.out.fr ((Fr.refl _ _).alloc _)⟩
set_option maxHeartbeats 400000 in
theorem meet_old (w0 : World) (n : Nat) (o : List Nat) (ow : Value) (w : World) (i : Nat) (t : ByteArray) (hI : RI w0 n o ow w) (hi : i < n) (_hn : n ≤ 2199023255552) (ho : i ∈ o) :
    Calls Tryd.prog 31 #[vv ⟨2, i, t⟩, .pointer (some ⟨w0.heap.size + 1, 0, none⟩), .pointer (some ⟨w0.heap.size + 2, 0, none⟩)] w fun e w' => e = .returned (.tuple #[]) ∧ ∃ ow', RI w0 n o ow' w' := by
  have c := hI.cell hi
  have p := hI.pbox
  rw [pl_old ho] at c
  have hb : w0.heap.size + 3 ≤ w.heap.size := hI.big
  have b0 : w0.heap.size < w.heap.size := by omega
  have b1 : w0.heap.size + 1 < w.heap.size := by omega
  have HI := hide hI
  clear hI ho
  generalize o.idxOf i = q at c
  go_enter Tryd.func31, Tryd.ntmps31
  go_wp2
  all_goals go_end0
  all_goals exact ⟨rfl, ow, HI.out.fr ((Fr.refl _ _).alloc _)⟩
theorem meet_fin {w0 w w6 : World} {n : Nat} {o : List Nat} {oa : Option Addr} {oc i g cp : Nat} {O O' : Obj} (hI : RI w0 n o (.slice oa o.length oc) w) (hi : i < n) (ho : i ∉ o)
    (hr6 : w6.ownsRow (w0.heap.size + 3) 3 1 (.slice (some ⟨g, 0, none⟩) (o.length + 1) cp) (o.length + 1) (orderL o ++ [.int .i64 (i : Nat)]))
    (hg6 : (((w.setCell ⟨w0.heap.size, i, none⟩ (.int .i64 o.length)).alloc O).alloc O').grownBy w6 (Value.slice oa o.length oc).ownBlock) (k1 : w6.cell? ⟨w0.heap.size + 2, 0, none⟩ = some (.slice oa o.length oc)) (k2 : w6.frozen? ⟨w0.heap.size + 2, 0, none⟩ = false) :
    ∃ ow', RI w0 n (o ++ [i]) ow' (w6.setCell ⟨w0.heap.size + 2, 0, none⟩ (.slice (some ⟨g, 0, none⟩) (o.length + 1) cp)) := by
  have hb := hI.big
  have hp := (hI.place.stored i (.int .i64 o.length)).1
  rw [placeL_set ho hi] at hp
  have F1 : Fr (fun j => j = w0.heap.size) w (((w.setCell ⟨w0.heap.size, i, none⟩ (.int .i64 o.length)).alloc O).alloc O') := ((Fr.setCell (Fr.refl (fun j => j = w0.heap.size) w) (p := ⟨w0.heap.size, i, none⟩) (.inl rfl) _).alloc _).alloc _
  have F2 : Fr (fun j => w0.heap.size + 2 ≤ j) (((w.setCell ⟨w0.heap.size, i, none⟩ (.int .i64 o.length)).alloc O).alloc O') (w6.setCell ⟨w0.heap.size + 2, 0, none⟩ (.slice (some ⟨g, 0, none⟩) (o.length + 1) cp)) := by
    refine Fr.setCell (p := ⟨w0.heap.size + 2, 0, none⟩) ((Fr.refl (fun j => w0.heap.size + 2 ≤ j) _).grown hg6 (fun k hk => .inl ?_)) (.inl (Nat.le_refl (w0.heap.size + 2))) _
    have := (hI.row.lt k hk).1
    show w0.heap.size + 2 ≤ k
    omega
  have hsz := F1.size
  refine ⟨.slice (some ⟨g, 0, none⟩) (o.length + 1) cp, ?_⟩
  have g3 := (hr6.lt g rfl).1
  have hs0 : ∀ k, (Value.slice (some ⟨w0.heap.size, 0, none⟩) n n).ownBlock = some k → ¬ w0.heap.size + 2 ≤ k := fun k hk e => by
    have : w0.heap.size = k := by simpa [Value.ownBlock] using hk
    omega
  have hs1 : ∀ k, (Value.slice (some ⟨g, 0, none⟩) (o.length + 1) cp).ownBlock = some k → ¬ k = w0.heap.size + 2 := fun k hk e => by
    have : g = k := by simpa [Value.ownBlock] using hk
    omega
  exact { old := (hI.old.trans (F1.below (by omega) (fun j hj e => by omega))).trans (F2.below (by omega) (fun j hj e => by omega))
          big := by have := F2.size; omega
          pbox := (F2.cell (p := ⟨w0.heap.size + 1, 0, none⟩) (by show w0.heap.size + 1 < _; omega) (by show ¬ w0.heap.size + 2 ≤ w0.heap.size + 1; omega)).trans ((F1.cell (p := ⟨w0.heap.size + 1, 0, none⟩) (by show w0.heap.size + 1 < _; omega) (by show ¬ w0.heap.size + 1 = w0.heap.size; omega)).trans hI.pbox)
          place := owns_fr ((hp.alloc _).alloc _) F2 (fun k hk e => hs0 k hk e)
          obox := by first | exact World.cell?_setCell_same _ _ _ k1 | simp [go_sem, k1]
          ofz := by first | (rw [World.frozen?_setCell]; exact k2) | simp [go_sem, k2]
          row := by
            have := owns_fr hr6 (Fr.setCell (Fr.refl (fun j => j = w0.heap.size + 2) w6) (p := ⟨w0.heap.size + 2, 0, none⟩) (.inl rfl) (.slice (some ⟨g, 0, none⟩) (o.length + 1) cp)) (fun k hk e => hs1 k hk e)
            simpa [orderL] using this }
set_option maxHeartbeats 400000 in
theorem meet_new (w0 : World) (n : Nat) (o : List Nat) (oa : Option Addr) (oc : Nat) (w : World) (i : Nat) (t : ByteArray) (hI : RI w0 n o (.slice oa o.length oc) w) (hi : i < n) (hol : o.length < n) (hn : n * 64 ≤ 140737488351232) (ho : i ∉ o) :
    Calls Tryd.prog 31 #[vv ⟨2, i, t⟩, .pointer (some ⟨w0.heap.size + 1, 0, none⟩), .pointer (some ⟨w0.heap.size + 2, 0, none⟩)] w fun e w' => e = .returned (.tuple #[]) ∧ ∃ ow', RI w0 n (o ++ [i]) ow' w' := by
  have c := hI.cell hi
  have p := hI.pbox
  have q := hI.obox
  have qz := hI.ofz
  have cz := hI.place.frozenAt i
  rw [pl_new ho] at c
  have hb : w0.heap.size + 3 ≤ w.heap.size := hI.big
  have b0 : w0.heap.size < w.heap.size := by omega
  have b1 : w0.heap.size + 1 < w.heap.size := by omega
  have b2 : w0.heap.size + 2 < w.heap.size := by omega
  have HI := hide hI
  have HO := hide ho
  clear hI ho
  obtain ⟨j0, hj0, hy0, hy1, hy2⟩ := info_parts size3
  have FS : Hid (Fr (fun j => j = w0.heap.size) w (w.setCell ⟨w0.heap.size, i, none⟩ (.int .i64 o.length))) := Fr.setCell (Fr.refl (fun j => j = w0.heap.size) w) (.inl rfl) _
  have hrow : (w.setCell ⟨w0.heap.size, i, none⟩ (.int .i64 o.length)).ownsRow (w0.heap.size + 3) 3 1 (.slice oa o.length oc) o.length (orderL o) :=
    owns_fr HI.out.row FS.out (fun k hk e => by have := (HI.out.row.lt k hk).1; omega)
  have O2 := hide (owns_far hrow (b := w0.heap.size + 2) (by omega))
  go_enter Tryd.func31, Tryd.ntmps31
  go_wp2_with (at_builtin; go_must (refine wpList_append_lies _ rfl _ _ 54 rfl (w0.heap.size + 3) 3 j0 _ 1 8 Tryd.underlying54 hj0 hy0 hy1 hy2 rfl (by decide) (.slice oa o.length oc) o.length _ rfl ((hrow.alloc _).alloc _) ⟨w.heap.size + 1, 0, none⟩ 1 1 [.int .i64 (i : Nat)] rfl rfl (newI _ _ _ (by simp [World.setCell])) (by simp [Value.oneCell']) (by decide) (by unfold maxLen; omega) (by omega) (by simp [World.setCell]; omega) _ rfl ?_); intro g cp w6 hr6 hg6 hat6 hlt6; have k1 := (hg6.cell_far ⟨w0.heap.size + 2, 0, none⟩ (by simp [World.setCell]; omega) O2.out).trans (((FS.out.alloc _).alloc _).cell (p := ⟨w0.heap.size + 2, 0, none⟩) b2 (by show ¬ w0.heap.size + 2 = _; omega) |>.trans q); have k2 := (hg6.frozen_far ⟨w0.heap.size + 2, 0, none⟩ (by simp [World.setCell]; omega) O2.out).trans (((FS.out.alloc _).alloc _).frozen (p := ⟨w0.heap.size + 2, 0, none⟩) b2 (by show ¬ w0.heap.size + 2 = _; omega) |>.trans qz); have hs6 : w0.heap.size + 2 < w6.heap.size := (by have := hg6.size; simp [World.setCell] at this; omega))
  go_end0
  exact ⟨rfl, meet_fin HI.out hi HO.out hr6 hg6 k1 k2⟩
theorem meet_any (w0 : World) (n : Nat) (o : List Nat) (ow : Value) (w : World) (v : Val) (hI : RI w0 n o ow w) (hv : RightV n v) (hok : Ok n o) (hn : n * 64 ≤ 140737488351232) :
    Calls Tryd.prog 31 #[vv v, .pointer (some ⟨w0.heap.size + 1, 0, none⟩), .pointer (some ⟨w0.heap.size + 2, 0, none⟩)] w fun e w' => e = .returned (.tuple #[]) ∧ ∃ ow', RI w0 n (meet n o v) ow' w' := by
  by_cases hk : v.k = 2
  · obtain ⟨h1, h2⟩ := hv hk
    have hr : inR n v = true := inR_iff.2 ⟨hk, h1, h2⟩
    obtain ⟨i, hi⟩ := Int.eq_ofNat_of_zero_le h1
    obtain ⟨vk, vn, vt⟩ := v
    simp only at hk hi h2
    subst hk hi
    have hin : i < n := by omega
    by_cases ho : i ∈ o
    · rw [show meet n o ⟨2, (i : Int), vt⟩ = o by simp [meet, hr, ho]]
      exact meet_old w0 n o ow w i vt hI hin (by omega) ho
    · rw [show meet n o ⟨2, (i : Int), vt⟩ = o ++ [i] by simp [meet, hr, ho]]
      obtain ⟨oa, oc, rfl⟩ := hI.shape
      have hol : o.length < n := by
        have := (meet_ok hok ⟨2, (i : Int), vt⟩).le
        rw [show meet n o ⟨2, (i : Int), vt⟩ = o ++ [i] by simp [meet, hr, ho]] at this
        simp at this
        omega
      exact meet_new w0 n o oa oc w i vt hI hin hol hn ho
  · rw [show meet n o v = o by simp [meet, inR_no hk]]
    exact meet_no w0 n o ow w v hI hk

/-- put: a value by the places. -/
def PR (w0 : World) (n : Nat) (o : List Nat) (w : World) : Prop := w.cell? ⟨w0.heap.size + 1, 0, none⟩ = some (.slice (some ⟨w0.heap.size, 0, none⟩) n n) ∧ (∀ i, i < n → w.cell? ⟨w0.heap.size, i, none⟩ = some (.int .i64 (pl o i))) ∧ w0.heap.size + 1 < w.heap.size
theorem RI.pr {w0 : World} {n : Nat} {o : List Nat} {ow : Value} {w : World} (h : RI w0 n o ow w) : PR w0 n o w := ⟨h.pbox, fun _ hi => h.cell hi, by have := h.big; omega⟩
theorem PR.below {w0 : World} {n : Nat} {o : List Nat} {w w' : World} (h : PR w0 n o w) (hb : Below w.heap.size w w') : PR w0 n o w' :=
  ⟨(hb.cell (p := ⟨w0.heap.size + 1, 0, none⟩) h.2.2).trans h.1, fun i hi => (hb.cell (p := ⟨w0.heap.size, i, none⟩) (by have := h.2.2; show w0.heap.size < _; omega)).trans (h.2.1 i hi), Nat.lt_of_lt_of_le h.2.2 hb.size⟩
set_option maxHeartbeats 400000 in
theorem rput_no (w0 : World) (w : World) (v : Val) (hk : v.k ≠ 2) :
    Calls Tryd.prog 32 #[vv v, .pointer (some ⟨w0.heap.size + 1, 0, none⟩)] w fun e w' => e = .returned (vv v) ∧ Below w.heap.size w w' := by
  have hk' : (v.k == 2) = false := by simpa using hk
  clear hk
  go_enter Tryd.func32, Tryd.ntmps32
  go_wp2
  refine bodyPost_ret (v := vv v) (by simp [results, Tryd.results32, go_sem]) rfl ⟨rfl, ?_⟩
  exact ((Below.refl _ _).alloc (Nat.le_refl _) _).alloc (by simp) _
set_option maxHeartbeats 400000 in
theorem rput_yes (w0 : World) (n : Nat) (o : List Nat) (w : World) (i : Nat) (t : ByteArray) (hI : PR w0 n o w) (hi : i < n) (_hn : n * 64 ≤ 140737488351232) (ho : i ∈ o) :
    Calls Tryd.prog 32 #[vv ⟨2, i, t⟩, .pointer (some ⟨w0.heap.size + 1, 0, none⟩)] w fun e w' => e = .returned (vv ⟨2, (o.idxOf i : Nat), t⟩) ∧ Below w.heap.size w w' := by
  have c := hI.2.1 i hi
  have p := hI.1
  rw [pl_old ho] at c
  have b1 := hI.2.2
  have b0 : w0.heap.size < w.heap.size := by omega
  clear hI ho
  generalize o.idxOf i = q at c ⊢
  go_enter Tryd.func32, Tryd.ntmps32
  go_wp2
  refine bodyPost_ret (v := vv ⟨2, (q : Nat), t⟩) (by simp [results, Tryd.results32, go_sem]) rfl ⟨rfl, ?_⟩
  exact ((Below.refl _ _).alloc (Nat.le_refl _) _).alloc (by simp) _
theorem rput_any (w0 : World) (n : Nat) (o : List Nat) (w : World) (v : Val) (hI : PR w0 n o w) (hv : RightV n v) (hn : n * 64 ≤ 140737488351232) (ho : inR n v = true → v.n.toNat ∈ o) :
    Calls Tryd.prog 32 #[vv v, .pointer (some ⟨w0.heap.size + 1, 0, none⟩)] w fun e w' => e = .returned (vv (ren n o v)) ∧ Below w.heap.size w w' := by
  by_cases hk : v.k = 2
  · obtain ⟨h1, h2⟩ := hv hk
    have hr : inR n v = true := inR_iff.2 ⟨hk, h1, h2⟩
    have hm := ho hr
    obtain ⟨i, hi⟩ := Int.eq_ofNat_of_zero_le h1
    obtain ⟨vk, vn, vt⟩ := v
    simp only at hk hi h2 hm
    subst hk hi
    rw [ren_yes hr]
    exact rput_yes w0 n o w i vt hI (by omega) hn (by simpa using hm)
  · rw [ren_no (inR_no hk)]
    exact rput_no w0 w v hk
end Go.Proofs.YtcemfgknnpjlhaaDoor
