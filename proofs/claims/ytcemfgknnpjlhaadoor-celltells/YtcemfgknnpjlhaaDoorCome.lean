/- The closure of Canon, that numbers a value's cell. -/
import Derived.Test.YtcemfgknnpjlhaaDoorBase
namespace Go.Proofs.YtcemfgknnpjlhaaDoor
open Go.RowKit Go.Ws

def mapIs (n : Nat) (o : List Nat) (D : DataW Unit) : Prop :=
  Maps.IsMap D ∧ ∀ i : Nat, i < n → Maps.has D (.int .i64 i) = decide (i ∈ o) ∧ (i ∈ o → D.atKey (.int .i64 i) (.lit (.int .i64 0)) = .lit (.int .i64 (o.idxOf i : Nat)))

/-- What the closure of Canon goes by. -/
structure CI (w0 : World) (h : List Cel) (hv : Value) (o : List Nat) (cs : List Cel) (cw : Value) (w : World) : Prop where
  old : Below w0.heap.size w0 w
  big : w0.heap.size + 5 ≤ w.heap.size
  hbox : w.cell? ⟨w0.heap.size, 0, none⟩ = some hv
  hfz : w.frozen? ⟨w0.heap.size, 0, none⟩ = false
  cbox : w.cell? ⟨w0.heap.size + 1, 0, none⟩ = some cw
  cfz : w.frozen? ⟨w0.heap.size + 1, 0, none⟩ = false
  nbox : w.cell? ⟨w0.heap.size + 3, 0, none⟩ = some (.map (some (w0.heap.size + 2)))
  row : w.ownsRow (w0.heap.size + 5) 43 6 cw cs.length (cs.flatMap encC)
  len : cs.length = o.length
  map : ∃ D : DataW Unit, w.ownsMap Tryd.prog 3 (plainElem Tryd.prog 3) (w0.heap.size + 2) o.length D ∧ mapIs h.length o D

set_option maxHeartbeats 400000 in
theorem within_any (n c : Int) (w : World)  :
    Calls Tryd.prog 24 #[.int .i64 n, .int .i64 c] w fun e w' => e = .returned (.bool (decide (0 ≤ n) && decide (n < c))) ∧ w' = w := by
  go_enter Tryd.func24, Tryd.ntmps24
  go_wp2
  all_goals go_ret
  · exact ⟨by simp [*], rfl⟩
  · exact ⟨by have : ¬ 0 ≤ n := by omega
              simp [*], rfl⟩

theorem ret_box {w : World} {f : Func} {R : Ending → World → Prop} {a : Act} {v : Value} (hr : (results f a.tmps).run Tryd.prog w = .ok v w) (hd : a.defers = []) (hR : R (.returned v) w) : bodyPost Tryd.prog f R .ret a w := bodyPost_ret hr hd hR

set_option maxHeartbeats 400000 in
theorem come_k (w0 : World) (h : List Cel) (hv : Value) (o : List Nat) (cs : List Cel) (cw : Value) (w : World) (v : Val) (_hI : CI w0 h hv o cs cw w) (hk : v.k ≠ 2) :
    Calls Tryd.prog 30 #[vv v, .pointer (some ⟨w0.heap.size, 0, none⟩), .pointer (some ⟨w0.heap.size + 3, 0, none⟩), .pointer (some ⟨w0.heap.size + 1, 0, none⟩)] w fun e w' => e = .returned (vv v) ∧ Fr nothing w w' := by
  have hk' : (v.k != 2) = true := by simpa using hk
  clear hk
  go_enter Tryd.func30, Tryd.ntmps30
  go_wp2
  refine bodyPost_ret (v := vv v) (by simp [results, Tryd.results30, go_sem]) rfl ⟨rfl, ?_⟩
  exact ((Fr.refl _ _).alloc _).alloc _

set_option maxHeartbeats 400000 in
theorem come_out (w0 : World) (h : List Cel) (hv : Value) (ao : Option Addr) (cap : Nat) (o : List Nat) (cs : List Cel) (cw : Value) (w : World) (v : Val) (hI : CI w0 h hv o cs cw w) (hk : v.k = 2) (he : hv = .slice ao h.length cap) (hn : (decide (0 ≤ v.n) && decide (v.n < (h.length : Int))) = false) :
    Calls Tryd.prog 30 #[vv v, .pointer (some ⟨w0.heap.size, 0, none⟩), .pointer (some ⟨w0.heap.size + 3, 0, none⟩), .pointer (some ⟨w0.heap.size + 1, 0, none⟩)] w fun e w' => e = .returned (vv v) ∧ Fr nothing w w' := by
  have hb := hI.hbox
  have hB : w0.heap.size < w.heap.size := by have := hI.big; omega
  clear hI
  obtain ⟨vk, vn, vt⟩ := v
  simp only at hk hn ⊢
  subst hk he
  go_enter Tryd.func30, Tryd.ntmps30
  go_wp2_with (go_at_call 24; refine (within_any _ _ _).mono ?_; rw [hn]; rintro e w' ⟨rfl, rfl⟩)
  refine bodyPost_ret (v := vv ⟨2, vn, vt⟩) (by simp [results, Tryd.results30, go_sem]) rfl ⟨rfl, ?_⟩
  exact ((Fr.refl _ _).alloc _).alloc _

theorem zero3 (w : World) : (zeroValue 3).run Tryd.prog w = .ok (.int .i64 0) w := by kernel_rfl
theorem law3 : Maps.Keyed Tryd.prog 3 := Maps.int_keyed Tryd.underlying3

set_option maxHeartbeats 400000 in
theorem come_had (w0 : World) (h : List Cel) (ao : Option Addr) (cap : Nat) (o : List Nat) (cs : List Cel) (cw : Value) (w : World) (i : Nat) (t : ByteArray) (hI : CI w0 h (.slice ao h.length cap) o cs cw w) (hm : h.length ≤ maxLen) (hi : i < h.length) (ho : i ∈ o) :
    Calls Tryd.prog 30 #[vv ⟨2, i, t⟩, .pointer (some ⟨w0.heap.size, 0, none⟩), .pointer (some ⟨w0.heap.size + 3, 0, none⟩), .pointer (some ⟨w0.heap.size + 1, 0, none⟩)] w fun e w' => e = .returned (vv ⟨2, (o.idxOf i : Nat), t⟩) ∧ Fr nothing w w' := by
  have hb := hI.hbox
  have hnb := hI.nbox
  have hB0 : w0.heap.size < w.heap.size := by have := hI.big; omega
  have hB3 : w0.heap.size + 3 < w.heap.size := by have := hI.big; omega
  obtain ⟨D, hD, hIs⟩ := hI.map
  obtain ⟨h1, h2⟩ := hIs.2 i hi
  have h1' : Maps.has D (.int .i64 i) = true := by rw [h1]; simpa using ho
  have H2 : Hid (D.atKey (.int .i64 i) (.lit (.int .i64 0)) = .lit (.int .i64 (o.idxOf i : Nat))) := h2 ho
  clear hI hIs h1 h2 ho
  unfold maxLen at hm
  go_enter Tryd.func30, Tryd.ntmps30
  have hn : (decide (0 ≤ (i : Int)) && decide ((i : Int) < (h.length : Int))) = true := by simp; omega
  have hwf : (Lit.int .i64 (i : Int)).wf = true := WalkArith.wf_i64 (by omega)
  go_wp2_with (first
    | (go_at_call 24; refine (within_any _ _ _).mono ?_; rw [hn]; rintro e w' ⟨rfl, rfl⟩)
    | (at_lookup; refine wpList_lookup_own_ok_int _ rfl _ _ 52 rfl 3 3 .i64 law3 Tryd.underlying52 Tryd.underlying3 (zero3 _) (w0.heap.size + 2) o.length D rfl ((hD.alloc _).alloc _) _ _ rfl (Maps.keyOf_int_mk Tryd.underlying3 hwf) ?_; intro c hat hwc; rw [h1']))
  rw [H2.out] at hat
  obtain rfl : (o.idxOf i : Int) = c := by simpa using hat
  refine bodyPost_ret (v := vv ⟨2, (o.idxOf i : Nat), t⟩) (by simp [results, Tryd.results30, go_sem]) rfl ⟨rfl, ?_⟩
  exact ((Fr.refl _ _).alloc _).alloc _

theorem cells_of_sl {w : World} {v : Value} {h : List Cel} (hs : Sl encC 6 w v h) {i : Nat} (hi : i < h.length) :
    ∃ b off cap, v = .slice (some ⟨b, off, none⟩) h.length cap ∧ b < w.heap.size ∧ w.cell? ⟨b, off + i * 6, none⟩ = some (.int .i64 (cellAt h i).l.k) ∧ w.cell? ⟨b, off + i * 6 + 1, none⟩ = some (.int .i64 (cellAt h i).l.n) ∧
      w.cell? ⟨b, off + i * 6 + 2, none⟩ = some (.string (cellAt h i).l.t) ∧ w.cell? ⟨b, off + i * 6 + 3, none⟩ = some (.int .i64 (cellAt h i).r.k) ∧ w.cell? ⟨b, off + i * 6 + 4, none⟩ = some (.int .i64 (cellAt h i).r.n) ∧
      w.cell? ⟨b, off + i * 6 + 5, none⟩ = some (.string (cellAt h i).r.t) := by
  obtain ⟨ao, cap, rfl, _, hc⟩ := hs
  have hx : h[i]? = some (cellAt h i) := by
    unfold cellAt
    rw [List.getD_eq_getElem?_getD, List.getElem?_eq_getElem hi]; rfl
  obtain ⟨b, off, rfl, hb, hc⟩ := hc i _ hx
  exact ⟨b, off, cap, rfl, hb, hc 0 _ rfl, hc 1 _ rfl, hc 2 _ rfl, hc 3 _ rfl, hc 4 _ rfl, hc 5 _ rfl⟩

theorem encC_one (x : Cel) : ∀ u ∈ encC x, u.oneCell' = true := by simp [encC, Value.oneCell']
theorem encV_one (x : Val) : ∀ u ∈ encV x, u.oneCell' = true := by simp [encV, Value.oneCell']
theorem heap_new (w : World) (O : Obj) : (w.alloc O).heap[w.heap.size]? = some O := by unfold World.alloc; simp
theorem newC (w : World) (x : Cel) (t : TypeId) : ∀ j u, (encC x)[j]? = some u → (w.alloc (.cells #[.int .i64 x.l.k, .int .i64 x.l.n, .string x.l.t, .int .i64 x.r.k, .int .i64 x.r.n, .string x.r.t] t)).cell? ((⟨w.heap.size, 0, none⟩ : Addr).add j) = some u :=
  World.news_of_block (cs := #[.int .i64 x.l.k, .int .i64 x.l.n, .string x.l.t, .int .i64 x.r.k, .int .i64 x.r.n, .string x.r.t]) (t := t) (fr := (0, 0)) (heap_new _ _)
theorem newV (w : World) (x : Val) (t : TypeId) : ∀ j u, (encV x)[j]? = some u → (w.alloc (.cells #[.int .i64 x.k, .int .i64 x.n, .string x.t] t)).cell? ((⟨w.heap.size, 0, none⟩ : Addr).add j) = some u :=
  World.news_of_block (cs := #[.int .i64 x.k, .int .i64 x.n, .string x.t]) (t := t) (fr := (0, 0)) (heap_new _ _)
theorem grown_past {w w2 : World} {O : Obj} {row : Option Nat} (hg : (w.alloc O).drew.grownBy w2 row) {b j : Nat} (hb : b < w.heap.size) (hne : some b ≠ row) : w2.cell? ⟨b, j, none⟩ = w.cell? ⟨b, j, none⟩ := by
  rw [hg.cell_far ⟨b, j, none⟩ (by simp [World.drew]; omega) hne]
  exact World.cell?_alloc_past _ _ _ hb
theorem grown_pastf {w w2 : World} {O : Obj} {row : Option Nat} (hg : (w.alloc O).drew.grownBy w2 row) {b j : Nat} (hb : b < w.heap.size) (hne : some b ≠ row) : w2.frozen? ⟨b, j, none⟩ = w.frozen? ⟨b, j, none⟩ := by
  rw [hg.frozen_far ⟨b, j, none⟩ (by simp [World.drew]; omega) hne]
  exact World.frozen?_alloc_past _ _ _ hb
theorem owns_far {w : World} {base e sz : Nat} {v : Value} {n : Nat} {xs : List Value} (h : w.ownsRow base e sz v n xs) {b : Nat} (hb : b < base) : some b ≠ v.ownBlock := by
  intro e
  have := (h.lt b e.symm).1
  omega

/-- What a new cell's coming changes. -/
def comeS (w0 : World) (cw : Value) : Nat → Prop := fun k => k = w0.heap.size + 2 ∨ k = w0.heap.size + 1 ∨ cw.ownBlock = some k

theorem set_far {w : World} {p a : Addr} {v : Value} (h : p.block ≠ a.block) : (w.setCell p v).cell? a = w.cell? a := World.cell?_setCell_other w p a v (fun e => h (by rw [e]))
theorem owns_fr {w w' : World} {base e sz : Nat} {v : Value} {n : Nat} {xs : List Value} {S : Nat → Prop} (h : w.ownsRow base e sz v n xs) (hf : Fr S w w') (hs : ∀ k, v.ownBlock = some k → ¬ S k) : w'.ownsRow base e sz v n xs := by
  refine ⟨h.1, ?_⟩
  rcases h.2 with h0 | ⟨g, cap, cur, rfl, hb, hg, hr⟩
  · exact .inl h0
  · refine .inr ⟨g, cap, cur, rfl, hb, ?_, hr⟩
    rw [hf.block g ((h.lt g rfl).2) (hs g rfl)]
    exact hg
theorem map_fr {w w' : World} {P : Program} {t : TypeId} {R : Value → Option (DataW Unit × List MemPlace)} {b n : Nat} {D : DataW Unit} {S : Nat → Prop} (h : w.ownsMap P t R b n D) (hf : Fr S w w') (hs : ¬ S b) : w'.ownsMap P t R b n D := by
  have hl := h.lt
  obtain ⟨es, clock, hb, hr⟩ := h
  exact ⟨es, clock, by rw [hf.block b hl hs]; exact hb, hr⟩
theorem mapIs_put {n : Nat} {o : List Nat} {D : DataW Unit} (h : mapIs n o D) {i : Nat} (ho : i ∉ o) (hwf : WideAt.IsKeyLit (Lit.int .i64 (i : Int))) : mapIs n (o ++ [i]) (D.put (.int .i64 i) (.lit (.int .i64 (o.length : Nat)))) := by
  refine ⟨h.1.put _ _, fun j hj => ?_⟩
  by_cases e : j = i
  · subst e
    refine ⟨by rw [Maps.has_put_same h.1 hwf]; simp, fun _ => ?_⟩
    rw [Maps.atKey_put_same h.1 hwf, List.idxOf_append, if_neg ho]
    simp
  · have hne : (Lit.int .i64 (j : Int)) ≠ Lit.int .i64 (i : Int) := by
      intro h; injection h with _ h; omega
    obtain ⟨h1, h2⟩ := h.2 j hj
    refine ⟨by rw [Maps.has_put_other hne, h1]; simp [e], fun hm => ?_⟩
    have hm' : j ∈ o := by simpa [e] using hm
    rw [Maps.atKey_put_other hne, h2 hm', List.idxOf_append, if_pos hm']

theorem come_fin {w0 w w1 w2 : World} {h : List Cel} {hv : Value} {o : List Nat} {cs : List Cel} {ca : Option Addr} {cc i g cp : Nat} {t : ByteArray} {O1 O2 O3 : Obj} {D : DataW Unit} (hI : CI w0 h hv o cs (.slice ca cs.length cc) w)
    (hIs : mapIs h.length o D) (ho : i ∉ o)
    (hg1 : ((w.alloc O1).alloc O2).grownBy w1 (some (w0.heap.size + 2)))
    (hm : w1.ownsMap Tryd.prog 3 (plainElem Tryd.prog 3) (w0.heap.size + 2) (cs.length + 1) (D.put (.int .i64 i) (.lit (.int .i64 (cs.length : Nat)))))
    (hg2 : (w1.alloc O3).drew.grownBy w2 (Value.slice ca cs.length cc).ownBlock)
    (hr : w2.ownsRow (w0.heap.size + 5) 43 6 (.slice (some ⟨g, 0, none⟩) (cs.length + 1) cp) (cs.length + 1) (cs.flatMap encC ++ encC (cellAt h i)))
    (hat : (Value.slice ca cs.length cc).ownBlock = some g ∨ g = (w1.alloc O3).drew.heap.size)
    (k1 : w2.cell? ⟨w0.heap.size + 1, 0, none⟩ = some (.slice ca cs.length cc)) (k2 : w2.frozen? ⟨w0.heap.size + 1, 0, none⟩ = false) (w3 : World)
    (e3 : w3 = (((((w2.setCell ⟨w0.heap.size + 1, 0, none⟩ (.slice (some ⟨g, 0, none⟩) (cs.length + 1) cp)).setCell ⟨w.heap.size, 1, none⟩ (.int .i64 (cs.length : Nat))).setCell ⟨w.heap.size + 1, 0, none⟩ (.int .i64 2)).setCell ⟨w.heap.size + 1, 1, none⟩ (.int .i64 (cs.length : Nat))).setCell ⟨w.heap.size + 1, 2, none⟩ (.string t))) :
    (∃ cw', CI w0 h hv (o ++ [i]) (cs ++ [cellAt h i]) cw' w3) ∧ Fr (comeS w0 (.slice ca cs.length cc)) w w3 := by
  have hown : ∀ k, (Value.slice ca cs.length cc).ownBlock = some k → w0.heap.size + 5 ≤ k ∧ k < w.heap.size := fun k hk => hI.row.lt k hk
  have hbig := hI.big
  have F1 : Fr (comeS w0 (.slice ca cs.length cc)) w w1 := (((Fr.refl _ w).alloc O1).alloc O2).grown hg1 (fun k hk => by left; left; simpa using hk.symm)
  have hs1 : w.heap.size + 2 ≤ w1.heap.size := by have := hg1.size; simpa using this
  have hs2 : w1.heap.size + 1 ≤ w2.heap.size := by have := hg2.size; simpa [World.drew] using this
  have F2 : Fr (comeS w0 (.slice ca cs.length cc)) w w2 := ((F1.alloc O3).drew).grown hg2 (fun k hk => by left; right; right; exact hk)
  have F3 : Fr (comeS w0 (.slice ca cs.length cc)) w w3 := by
    subst e3
    refine Fr.setCell (Fr.setCell (Fr.setCell (Fr.setCell (Fr.setCell F2 ?_ _) ?_ _) ?_ _) ?_ _) ?_ _
    · left; right; left; rfl
    · right; exact Nat.le_refl _
    · right; exact Nat.le_succ _
    · right; exact Nat.le_succ _
    · right; exact Nat.le_succ _
  have G : Fr (fun k => k = w0.heap.size + 1 ∨ k = w.heap.size ∨ k = w.heap.size + 1) w2 w3 := by
    subst e3
    refine Fr.setCell (Fr.setCell (Fr.setCell (Fr.setCell (Fr.setCell (Fr.refl _ _) ?_ _) ?_ _) ?_ _) ?_ _) ?_ _
    · exact .inl (.inl rfl)
    · exact .inl (.inr (.inl rfl))
    · exact .inl (.inr (.inr rfl))
    · exact .inl (.inr (.inr rfl))
    · exact .inl (.inr (.inr rfl))
  have M : Fr (fun k => (k = w0.heap.size + 1 ∨ k = w.heap.size ∨ k = w.heap.size + 1) ∨ (Value.slice ca cs.length cc).ownBlock = some k) w1 w3 := by
    refine Fr.trans ((((Fr.refl _ w1).alloc O3).drew).grown hg2 (fun k hk => .inl (.inr hk))) (G.mono fun k _ hk => .inl hk)
  have n0 : ¬ comeS w0 (.slice ca cs.length cc) w0.heap.size := by
    rintro (hk | hk | hk)
    · omega
    · omega
    · have := hown _ hk; omega
  have n3 : ¬ comeS w0 (.slice ca cs.length cc) (w0.heap.size + 3) := by
    rintro (hk | hk | hk)
    · omega
    · omega
    · have := hown _ hk; omega
  have hgne : g ≠ w.heap.size ∧ g ≠ w.heap.size + 1 ∧ g ≠ w0.heap.size + 1 := by
    rcases hat with hk | hk
    · have := hown _ hk; omega
    · simp [World.drew] at hk; omega
  have hfl : (cs ++ [cellAt h i]).flatMap encC = cs.flatMap encC ++ encC (cellAt h i) := by simp
  refine ⟨⟨.slice (some ⟨g, 0, none⟩) (cs.length + 1) cp, ?_⟩, F3⟩
  refine { old := hI.old.trans (F3.below (by omega) ?_), big := by have := F3.size; omega, hbox := (F3.cell (p := ⟨w0.heap.size, 0, none⟩) (by show w0.heap.size < _; omega) n0).trans hI.hbox, hfz := (F3.frozen (p := ⟨w0.heap.size, 0, none⟩) (by show w0.heap.size < _; omega) n0).trans hI.hfz, cbox := ?_, cfz := ?_, nbox := (F3.cell (p := ⟨w0.heap.size + 3, 0, none⟩) (by show w0.heap.size + 3 < _; omega) n3).trans hI.nbox, row := ?_, len := by simp [hI.len], map := ?_ }
  · rintro k hk (hx | hx | hx)
    · omega
    · omega
    · have := hown _ hx; omega
  · subst e3
    rw [set_far (by show w.heap.size + 1 ≠ w0.heap.size + 1; omega), set_far (by show w.heap.size + 1 ≠ w0.heap.size + 1; omega), set_far (by show w.heap.size + 1 ≠ w0.heap.size + 1; omega), set_far (by show w.heap.size ≠ w0.heap.size + 1; omega)]
    exact World.cell?_setCell_same _ _ _ (h := k1)
  · subst e3
    simpa [World.frozen?_setCell] using k2
  · rw [List.length_append, hfl]
    exact owns_fr hr G (fun k hk => by
      have : g = k := by simpa [Value.ownBlock] using hk
      omega)
  · refine ⟨_, ?_, mapIs_put hIs ho ?_⟩
    · have := map_fr hm M (by
        rintro ((hx | hx | hx) | hx)
        · omega
        · omega
        · omega
        · have := hown _ hx; omega)
      rw [hI.len] at this
      simpa using this
    · trivial

set_option maxHeartbeats 400000 in
theorem come_new (w0 : World) (h : List Cel) (hv : Value) (o : List Nat) (cs : List Cel) (ca : Option Addr) (cc : Nat) (w : World) (i : Nat) (t : ByteArray) (hI : CI w0 h hv o cs (.slice ca cs.length cc) w) (hs : Sl encC 6 w0 hv h)
    (hm : h.length * 64 ≤ 140737488351232) (hi : i < h.length) (hok : cs.length < h.length) (ho : i ∉ o) :
    Calls Tryd.prog 30 #[vv ⟨2, i, t⟩, .pointer (some ⟨w0.heap.size, 0, none⟩), .pointer (some ⟨w0.heap.size + 3, 0, none⟩), .pointer (some ⟨w0.heap.size + 1, 0, none⟩)] w fun e w' => e = .returned (vv ⟨2, (cs.length : Nat), t⟩) ∧
      (∃ cw', CI w0 h hv (o ++ [i]) (cs ++ [cellAt h i]) cw' w') ∧ Fr (comeS w0 (.slice ca cs.length cc)) w w' := by
  obtain ⟨b, off, cap, rfl, hbl, c0, c1, c2, c3, c4, c5⟩ := cells_of_sl hs hi
  have hb := hI.hbox
  have hnb := hI.nbox
  have hcb := hI.cbox
  have hcf := hI.cfz
  have hB0 : w0.heap.size < w.heap.size := by have := hI.big; omega
  have hB1 : w0.heap.size + 1 < w.heap.size := by have := hI.big; omega
  have hB2 : w0.heap.size + 2 < w.heap.size := by have := hI.big; omega
  have hB3 : w0.heap.size + 3 < w.heap.size := by have := hI.big; omega
  have hbw : b < w.heap.size := by omega
  rw [← hI.old.cell (p := ⟨b, _, none⟩) hbl] at c0 c1 c2 c3 c4 c5
  obtain ⟨D, hD, hIs⟩ := hI.map
  have h1' : Maps.has D (.int .i64 i) = false := by rw [(hIs.2 i hi).1]; simpa using ho
  rw [← hI.len] at hD
  have HI := hide hI
  have HIs := hide hIs
  have HS := hide hs
  have HO := hide ho
  clear hI hIs ho hs
  have hn : (decide (0 ≤ (i : Int)) && decide ((i : Int) < (h.length : Int))) = true := by simp; omega
  have hwf : (Lit.int .i64 (i : Int)).wf = true := WalkArith.wf_i64 (by omega)
  have hwf2 : (Lit.int .i64 (cs.length : Int)).wf = true := WalkArith.wf_i64 (by omega)
  obtain ⟨i0, hi0, hz0, hz1, hz2⟩ := info_parts size43
  go_enter Tryd.func30, Tryd.ntmps30
  go_wp2_with (first
    | (go_at_call 24; refine (within_any _ _ _).mono ?_; rw [hn]; rintro e w' ⟨rfl, rfl⟩)
    | (at_lookup; refine wpList_lookup_own_ok_int _ rfl _ _ 52 rfl 3 3 .i64 law3 Tryd.underlying52 Tryd.underlying3 (zero3 _) (w0.heap.size + 2) cs.length D rfl ((hD.alloc _).alloc _) _ _ rfl (Maps.keyOf_int_mk Tryd.underlying3 hwf) ?_; intro c hat hwc; rw [h1'])
    | (at_mapUpdate; refine wpList_mapUpdate_own _ rfl _ _ _ 52 rfl 3 3 law3 Tryd.underlying52 _ (w0.heap.size + 2) cs.length D rfl ((hD.alloc _).alloc _) (by unfold maxLen; omega) _ _ _ rfl rfl (Maps.keyOf_int_mk Tryd.underlying3 hwf) _ [] (plainElem_int Tryd.underlying3 hwf2) ?_; intro w1 hown1 hgrow1))
  have hrow1 : w1.ownsRow (w0.heap.size + 5) 43 6 (.slice ca cs.length cc) cs.length (cs.flatMap encC) := by
    refine World.ownsRow.kept ((HI.out.row.alloc _).alloc _) hgrow1 ?_
    cases ca with
    | none => exact .inl rfl
    | some a =>
      right
      have h5 := (HI.out.row.lt a.block rfl).1
      simp [Value.ownBlock]; omega
  have hsz1 : w.heap.size + 2 ≤ w1.heap.size := by have := hgrow1.size; simpa using this
  have far := fun (b j : Nat) (h1 : b < w.heap.size + 2) (h2 : b ≠ w0.heap.size + 2) => hgrow1.cell_far ⟨b, j, none⟩ (by simpa using h1) (by simpa using h2)
  have farf := fun (b j : Nat) (h1 : b < w.heap.size + 2) (h2 : b ≠ w0.heap.size + 2) => hgrow1.frozen_far ⟨b, j, none⟩ (by simpa using h1) (by simpa using h2)
  have d0 := ((far b (off + i * 6) (by omega) (by omega)).trans (al2_old hbw)).trans c0
  have d1 := ((far b (off + i * 6 + 1) (by omega) (by omega)).trans (al2_old hbw)).trans c1
  have d2 := ((far b (off + i * 6 + 2) (by omega) (by omega)).trans (al2_old hbw)).trans c2
  have d3 := ((far b (off + i * 6 + 3) (by omega) (by omega)).trans (al2_old hbw)).trans c3
  have d4 := ((far b (off + i * 6 + 4) (by omega) (by omega)).trans (al2_old hbw)).trans c4
  have d5 := ((far b (off + i * 6 + 5) (by omega) (by omega)).trans (al2_old hbw)).trans c5
  have e0 := ((far w0.heap.size 0 (by omega) (by omega)).trans (al2_old hB0)).trans hb
  have e1 := ((far (w0.heap.size + 1) 0 (by omega) (by omega)).trans (al2_old hB1)).trans hcb
  have e2 := ((farf (w0.heap.size + 1) 0 (by omega) (by omega)).trans (al2_oldf hB1)).trans hcf
  have f0 := (far w.heap.size 0 (by omega) (by omega)).trans (World.cell?_alloc2_first _ _ _ _)
  have f1 := (far w.heap.size 1 (by omega) (by omega)).trans (World.cell?_alloc2_first _ _ _ _)
  have f2 := (far w.heap.size 2 (by omega) (by omega)).trans (World.cell?_alloc2_first _ _ _ _)
  have f3 := (farf w.heap.size 1 (by omega) (by omega)).trans (World.frozen?_alloc2_first _ _ _ _)
  have g0 := (far (w.heap.size + 1) 0 (by omega) (by omega)).trans (World.cell?_alloc2_new _ _ _ _)
  have g1 := (far (w.heap.size + 1) 1 (by omega) (by omega)).trans (World.cell?_alloc2_new _ _ _ _)
  have g2 := (far (w.heap.size + 1) 2 (by omega) (by omega)).trans (World.cell?_alloc2_new _ _ _ _)
  have g3 := (farf (w.heap.size + 1) 0 (by omega) (by omega)).trans (World.frozen?_alloc2_new _ _ _ _)
  have g4 := (farf (w.heap.size + 1) 1 (by omega) (by omega)).trans (World.frozen?_alloc2_new _ _ _ _)
  have g5 := (farf (w.heap.size + 1) 2 (by omega) (by omega)).trans (World.frozen?_alloc2_new _ _ _ _)
  simp only [List.getElem?_toArray, List.getElem?_cons_zero, List.getElem?_cons_succ] at f0 f1 f2 g0 g1 g2
  clear far farf c0 c1 c2 c3 c4 c5 hb hcb hcf hnb
  have hs1 : w0.heap.size + 1 < w1.heap.size := by omega
  have hs2 : w.heap.size < w1.heap.size := by omega
  have hs3 : w.heap.size + 1 < w1.heap.size := by omega
  have hs4 : b < w1.heap.size := by omega
  have hs5 : w0.heap.size < w1.heap.size := by omega
  have HG := hide hgrow1
  have o0 := owns_far hrow1 (b := w0.heap.size + 1) (by omega)
  have o1 : some w.heap.size ≠ (Value.slice ca cs.length cc).ownBlock := by
    intro e
    have := (HI.out.row.lt _ e.symm).2
    omega
  have o2 : some (w.heap.size + 1) ≠ (Value.slice ca cs.length cc).ownBlock := by
    intro e
    have := (HI.out.row.lt _ e.symm).2
    omega
  have O0 := hide o0
  have O1 := hide o1
  have O2 := hide o2
  clear o0 o1 o2
  have HM := hide hown1
  clear hgrow1 hown1 hD h1' hat hwc
  go_region_law (refine step_append_lies _ rfl (.tmp 35) (.tmp 41) 22 rfl (w0.heap.size + 5) 43 i0 _ 6 64 Tryd.underlying22 hi0 hz0 hz1 hz2 rfl (by decide) (.slice ca cs.length cc) cs.length (cs.flatMap encC) (by simp [Act.eval]) (by exact hrow1.alloc _) ⟨w1.heap.size, 0, none⟩ 1 1 (encC (cellAt h i)) (by simp [Act.eval]) rfl (by exact newC _ _ _) (encC_one _) (by decide) (by unfold maxLen; omega) (by omega) (by simp; omega) _ rfl ?_; intro g cp w2 hown2 hgrow2 hat2 hlt2; have k1 := (grown_past hgrow2 hs1 O0.out).trans e1; have k2 := (grown_pastf hgrow2 hs1 O0.out).trans e2)
  all_goals
    have hz2 : w.heap.size < w2.heap.size := by have := hgrow2.size; simp [World.drew] at this; omega
    have hz3 : w.heap.size + 1 < w2.heap.size := by have := hgrow2.size; simp [World.drew] at this; omega
    have l0 := (grown_past hgrow2 hs2 O1.out).trans f0
    have l1 := (grown_past hgrow2 hs2 O1.out).trans f1
    have l2 := (grown_past hgrow2 hs2 O1.out).trans f2
    have l3 := (grown_pastf hgrow2 hs2 O1.out).trans f3
    have m0 := (grown_past hgrow2 hs3 O2.out).trans g0
    have m1 := (grown_past hgrow2 hs3 O2.out).trans g1
    have m2 := (grown_past hgrow2 hs3 O2.out).trans g2
    have m3 := (grown_pastf hgrow2 hs3 O2.out).trans g3
    have m4 := (grown_pastf hgrow2 hs3 O2.out).trans g4
    have m5 := (grown_pastf hgrow2 hs3 O2.out).trans g5
    clear d0 d1 d2 d3 d4 d5 e0 e1 e2 f0 f1 f2 f3 g0 g1 g2 g3 g4 g5 hn hwf hwf2
    go_wp2
    refine bodyPost_ret (v := vv ⟨2, (cs.length : Nat), t⟩) (by simp [results, Tryd.results30, go_sem, *]) rfl ⟨rfl, ?_⟩
    exact come_fin (D := D) HI.out HIs.out HO.out HG.out HM.out hgrow2 hown2 hat2 k1 k2 _ rfl

/-- The closure of Canon: a value, its cell numbered. -/
theorem come_any (w0 : World) (h : List Cel) (hv : Value) (o : List Nat) (cs : List Cel) (cw : Value) (w : World) (v : Val) (hI : CI w0 h hv o cs cw w) (hs : Sl encC 6 w0 hv h) (hm : h.length * 64 ≤ 140737488351232) (hok : Ok h.length o) :
    Calls Tryd.prog 30 #[vv v, .pointer (some ⟨w0.heap.size, 0, none⟩), .pointer (some ⟨w0.heap.size + 3, 0, none⟩), .pointer (some ⟨w0.heap.size + 1, 0, none⟩)] w fun e w' => e = .returned (vv (ren h.length (meet h.length o v) v)) ∧
      (∃ cw', CI w0 h hv (meet h.length o v) (cs ++ ((meet h.length o v).drop o.length).map (cellAt h)) cw' w') ∧ Fr (comeS w0 cw) w w' := by
  have hstay : ∀ w', Fr nothing w w' → (∃ cw', CI w0 h hv o cs cw' w') ∧ Fr (comeS w0 cw) w w' := by
    intro w' hf
    have hlt : w0.heap.size + 5 ≤ w.heap.size := hI.big
    obtain ⟨D, hD, hIs⟩ := hI.map
    refine ⟨⟨cw, { old := hI.old.trans (hf.below (by omega) (fun _ _ => id)), big := Nat.le_trans hlt hf.size, hbox := (hf.cell (p := ⟨w0.heap.size, 0, none⟩) (by show w0.heap.size < _; omega) id).trans hI.hbox, hfz := (hf.frozen (p := ⟨w0.heap.size, 0, none⟩) (by show w0.heap.size < _; omega) id).trans hI.hfz, cbox := (hf.cell (p := ⟨w0.heap.size + 1, 0, none⟩) (by show w0.heap.size + 1 < _; omega) id).trans hI.cbox, cfz := (hf.frozen (p := ⟨w0.heap.size + 1, 0, none⟩) (by show w0.heap.size + 1 < _; omega) id).trans hI.cfz, nbox := (hf.cell (p := ⟨w0.heap.size + 3, 0, none⟩) (by show w0.heap.size + 3 < _; omega) id).trans hI.nbox, row := owns_fr hI.row hf (fun _ _ => id), len := hI.len, map := ⟨D, map_fr hD hf id, hIs⟩ }⟩, hf.mono (fun _ _ h => h.elim)⟩
  obtain ⟨ao, cap, rfl, hml, _⟩ := id hs
  by_cases hr : inR h.length v = true
  · obtain ⟨hk, h0, h1⟩ := inR_iff.1 hr
    obtain ⟨i, hi⟩ := Int.eq_ofNat_of_zero_le h0
    obtain ⟨vk, vn, vt⟩ := v
    simp only at hk hi h1
    subst hk hi
    have hilt : i < h.length := by omega
    by_cases ho : i ∈ o
    · have e1 : meet h.length o ⟨2, (i : Int), vt⟩ = o := by simp [meet, hr, ho]
      have e2 : ren h.length o ⟨2, (i : Int), vt⟩ = ⟨2, (o.idxOf i : Nat), vt⟩ := by simp [ren, hr]
      rw [e1, e2]
      refine (come_had w0 h ao cap o cs cw w i vt hI hml hilt ho).mono ?_
      rintro e w' ⟨rfl, hf⟩
      exact ⟨rfl, by simpa using hstay w' hf⟩
    · have e1 : meet h.length o ⟨2, (i : Int), vt⟩ = o ++ [i] := by simp [meet, hr, ho]
      have e2 : ren h.length (o ++ [i]) ⟨2, (i : Int), vt⟩ = ⟨2, (o.length : Nat), vt⟩ := by simp [ren, hr, List.idxOf_append, ho]
      have hlt : o.length < h.length := by
        have := (meet_ok hok ⟨2, (i : Int), vt⟩).le
        rw [e1] at this
        simp at this
        omega
      obtain ⟨ca, cc, rfl⟩ : ∃ ca cc, cw = .slice ca cs.length cc := by
        rcases hI.row.2 with ⟨rfl, h0⟩ | ⟨g, c, _, rfl, _⟩
        · exact ⟨none, 0, by rw [h0]⟩
        · exact ⟨_, _, rfl⟩
      rw [e1, e2]
      refine (come_new w0 h (.slice ao h.length cap) o cs ca cc w i vt hI hs hm hilt (by rw [hI.len]; exact hlt) ho).mono ?_
      rintro e w' ⟨rfl, hx⟩
      refine ⟨by rw [hI.len], ?_⟩
      simpa using hx
  · have e1 : meet h.length o v = o := by simp [meet, hr]
    have e2 : ren h.length o v = v := by simp [ren, hr]
    rw [e1, e2]
    by_cases hk : v.k = 2
    · refine (come_out w0 h (.slice ao h.length cap) ao cap o cs cw w v hI hk rfl ?_).mono ?_
      · simpa [inR, hk] using hr
      · rintro e w' ⟨rfl, hf⟩
        exact ⟨rfl, by simpa using hstay w' hf⟩
    · refine (come_k w0 h (.slice ao h.length cap) o cs cw w v hI hk).mono ?_
      rintro e w' ⟨rfl, hf⟩
      exact ⟨rfl, by simpa using hstay w' hf⟩
end Go.Proofs.YtcemfgknnpjlhaaDoor
