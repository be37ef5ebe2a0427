/- Cells that are laid in another order are numbered anew alike: the walk. -/
import Derived.Test.YtcemfgknnpjlhaaDoorAlive
import Derived.Test.YtcemfgknnpjlhaaDoorSame
import Derived.Test.YtcemfgknnpjlhaaDoorSim
namespace Go.Proofs.YtcemfgknnpjlhaaDoor
open Go.RowKit Go.Ws

def mvB (b n : Nat) (v : Val) : Val := mv (fun i => (i + b) % n) n v

set_option maxHeartbeats 400000 in
theorem move_no (v : Val) (w : World) (bb bn : Nat) (hk : v.k ≠ 2) :
    Calls Tryd.prog 22 #[vv v, .pointer (some ⟨bb, 0, none⟩), .pointer (some ⟨bn, 0, none⟩)] w fun e w' => e = .returned (vv v) ∧ Below w.heap.size w w' := by
  have hk' : (v.k == 2) = false := by simpa using hk
  clear hk
  go_enter Tryd.func22, Tryd.ntmps22
  go_wp2
  refine bodyPost_ret (v := vv v) (by simp [results, Tryd.results22, go_sem]) rfl ⟨rfl, ?_⟩
  exact ((Below.refl _ _).alloc (Nat.le_refl _) _).alloc (by simp) _
set_option maxHeartbeats 400000 in
theorem move_yes (i b n : Nat) (t : ByteArray) (w : World) (bb bn : Nat) (h1 : w.cell? ⟨bb, 0, none⟩ = some (.int .i64 b)) (h2 : w.cell? ⟨bn, 0, none⟩ = some (.int .i64 n)) (hb : b < n) (hi : i < n) (hn : n ≤ 2199023255552) :
    Calls Tryd.prog 22 #[vv ⟨2, i, t⟩, .pointer (some ⟨bb, 0, none⟩), .pointer (some ⟨bn, 0, none⟩)] w fun e w' => e = .returned (vv ⟨2, ((i + b) % n : Nat), t⟩) ∧ Below w.heap.size w w' := by
  have hbb : bb < w.heap.size := lt_of_cell h1
  have hbn : bn < w.heap.size := lt_of_cell h2
  have hn0 : ((n : Int) == 0) = false := by rw [beq_eq_false_iff_ne]; omega
  have hpos : 0 < n := by omega
  go_enter Tryd.func22, Tryd.ntmps22
  go_wp2
  refine bodyPost_ret (v := vv ⟨2, ((i + b) % n : Nat), t⟩) (by simp [results, Tryd.results22, go_sem]) rfl ⟨rfl, ?_⟩
  exact ((Below.refl _ _).alloc (Nat.le_refl _) _).alloc (by simp) _
theorem move_any (v : Val) (b n : Nat) (w : World) (bb bn : Nat) (hv : RightV n v) (h1 : w.cell? ⟨bb, 0, none⟩ = some (.int .i64 b)) (h2 : w.cell? ⟨bn, 0, none⟩ = some (.int .i64 n)) (hb : b < n) (hn : n ≤ 2199023255552) :
    Calls Tryd.prog 22 #[vv v, .pointer (some ⟨bb, 0, none⟩), .pointer (some ⟨bn, 0, none⟩)] w fun e w' => e = .returned (vv (mvB b n v)) ∧ Below w.heap.size w w' := by
  by_cases hk : v.k = 2
  · obtain ⟨h3, h4⟩ := hv hk
    have hr : inR n v = true := inR_iff.2 ⟨hk, h3, h4⟩
    obtain ⟨i, hi⟩ := Int.eq_ofNat_of_zero_le h3
    obtain ⟨vk, vn, vt⟩ := v
    simp only at hk hi h4
    subst hk hi
    rw [show mvB b n ⟨2, (i : Int), vt⟩ = ⟨2, ((i + b) % n : Nat), vt⟩ by simp [mvB, mv, hr]]
    exact move_yes i b n vt w bb bn h1 h2 hb (by omega) hn
  · have hr : inR n v = false := by
      cases hx : inR n v with
      | false => rfl
      | true => exact absurd (inR_iff.1 hx).1 hk
    rw [show mvB b n v = v by simp [mvB, mv, hr]]
    exact move_no v w bb bn hk

def mvC (b n : Nat) (c : Cel) : Cel := ⟨mvB b n c.l, mvB b n c.r⟩
/-- The cells laid so far. -/
def gk (b : Nat) (cl : List Cel) : Nat → List Cel
  | 0 => List.replicate cl.length zeroC
  | k + 1 => (gk b cl k).set ((k + b) % cl.length) (mvC b cl.length (cellAt cl k))
theorem gk_length (b : Nat) (cl : List Cel) : ∀ k, (gk b cl k).length = cl.length
  | 0 => by simp [gk]
  | k + 1 => by simp [gk, gk_length b cl k]
theorem gk_at {b : Nat} {cl : List Cel} (hb : b < cl.length) : ∀ (k i : Nat), k ≤ cl.length → i < k → (gk b cl k)[(i + b) % cl.length]? = some (mvC b cl.length (cellAt cl i))
  | k + 1, i, hk, hi => by
    unfold gk
    by_cases e : i = k
    · subst e
      rw [List.getElem?_set_self (by rw [gk_length]; exact Nat.mod_lt _ (by omega))]
    · rw [List.getElem?_set_ne (fun h => e (mod_inj (by omega) (by omega) hb h.symm))]
      exact gk_at hb k i (by omega) (by omega)
theorem gk_sim {b : Nat} {cl : List Cel} (hb : b < cl.length) (hr : ∀ c ∈ cl, RightV cl.length c.l ∧ RightV cl.length c.r) : Sim cl (gk b cl cl.length) (fun i => (i + b) % cl.length) (fun i => i < cl.length) := by
  refine moved_sim hb (gk_length _ _ _) (fun i hi => ?_) hr
  have := gk_at hb cl.length i (Nat.le_refl _) hi
  unfold cellAt at this ⊢
  rw [List.getD_eq_getElem?_getD, this]
  rfl
theorem made_zero (n : Nat) : (madeCells (Value.agg #[.int .i64 0, .int .i64 0, .string ⟨#[]⟩, .int .i64 0, .int .i64 0, .string ⟨#[]⟩]).cells (n * 6)).toList = (List.replicate n zeroC).flatMap encC := by
  apply List.ext_getElem?
  intro j
  by_cases hj : j < n * 6
  · have hl : (madeCells (Value.agg #[.int .i64 0, .int .i64 0, .string ⟨#[]⟩, .int .i64 0, .int .i64 0, .string ⟨#[]⟩]).cells (n * 6)).toList[j]? = some ((#[.int .i64 0, .int .i64 0, .string ⟨#[]⟩, .int .i64 0, .int .i64 0, .string ⟨#[]⟩] : Array Value)[j % 6]!) := by
      simp [madeCells, Value.cells, hj]
    rw [hl]
    have hd : j / 6 < n := by omega
    have hr : (encC zeroC)[j % 6]? = some ((#[.int .i64 0, .int .i64 0, .string ⟨#[]⟩, .int .i64 0, .int .i64 0, .string ⟨#[]⟩] : Array Value)[j % 6]!) := by
      generalize hq : j % 6 = r
      have : r < 6 := by omega
      rcases (by omega : r = 0 ∨ r = 1 ∨ r = 2 ∨ r = 3 ∨ r = 4 ∨ r = 5) with rfl | rfl | rfl | rfl | rfl | rfl <;> rfl
    have := flat_get encC 6 encC_length (List.replicate n zeroC) (j / 6) zeroC (j % 6) _ (by simp [hd]) hr
    rw [show j / 6 * 6 + j % 6 = j by omega] at this
    exact this.symm
  · rw [List.getElem?_eq_none (by simp [madeCells]; omega), List.getElem?_eq_none (by rw [flat_length encC 6 encC_length, List.length_replicate]; omega)]

theorem right_vals {n : Nat} {v : Val} (h : okV n v = true) : RightV n v := by
  intro hk
  rcases ok_cases h with ⟨h0, _⟩ | ⟨h0, _⟩ | ⟨_, h1, h2, _⟩
  · omega
  · omega
  · exact ⟨h1, h2⟩
theorem rem_eq {k m n r : Nat} (hr : r = (k + m) % n) : ((k : Int) + (m : Int)).tmod (n : Int) = (r : Int) := by
  rw [hr, Int.tmod_eq_emod_of_nonneg (by omega), Int.natCast_emod]
  simp
theorem row_there {w : World} {base g n cap : Nat} {cs : List Cel} (hr : w.ownsRow base 43 6 (.slice (some ⟨g, 0, none⟩) n cap) n (cs.flatMap encC)) (hn : cs.length = n) {d : Nat} (hd : d < n) :
    ∃ x : Cel, w.cell? ⟨g, d * 6, none⟩ = some (.int .i64 x.l.k) ∧ w.cell? ⟨g, d * 6 + 1, none⟩ = some (.int .i64 x.l.n) ∧ w.cell? ⟨g, d * 6 + 2, none⟩ = some (.string x.l.t) ∧ w.cell? ⟨g, d * 6 + 3, none⟩ = some (.int .i64 x.r.k) ∧ w.cell? ⟨g, d * 6 + 4, none⟩ = some (.int .i64 x.r.n) ∧ w.cell? ⟨g, d * 6 + 5, none⟩ = some (.string x.r.t) ∧
      w.frozen? ⟨g, d * 6, none⟩ = false ∧ w.frozen? ⟨g, d * 6 + 1, none⟩ = false ∧ w.frozen? ⟨g, d * 6 + 2, none⟩ = false ∧ w.frozen? ⟨g, d * 6 + 3, none⟩ = false ∧ w.frozen? ⟨g, d * 6 + 4, none⟩ = false ∧ w.frozen? ⟨g, d * 6 + 5, none⟩ = false := by
  have := row_cell hr (List.getElem?_eq_getElem (show d < cs.length by omega)) hn
  exact ⟨cs[d]'(by omega), this 0 _ rfl, this 1 _ rfl, this 2 _ rfl, this 3 _ rfl, this 4 _ rfl, this 5 _ rfl, hr.frozenAt _, hr.frozenAt _, hr.frozenAt _, hr.frozenAt _, hr.frozenAt _, hr.frozenAt _⟩
/-- What the loop over the cells goes by. -/
def MvG (w w2 : World) (b : Nat) (cl : List Cel) (k : Nat) (wr : World) : Prop :=
  Below (w2.heap.size + 1) (w2.alloc (.cells #[.int .i64 cl.length] 3)) wr ∧ Below w.heap.size w w2 ∧ wr.ownsRow (w2.heap.size + 1) 43 6 (.slice (some ⟨w2.heap.size + 1, 0, none⟩) cl.length cl.length) cl.length ((gk b cl k).flatMap encC)

theorem cellAt_get {cl : List Cel} {k : Nat} (hk : k < cl.length) : cl[k] = cellAt cl k := by
  unfold cellAt
  rw [List.getD_eq_getElem?_getD, List.getElem?_eq_getElem hk]; rfl
theorem mvG_step {w w2 wr w6 : World} {m : Nat} {cl : List Cel} {k r : Nat} {c : Cel} {O : Obj} (h : MvG w w2 m cl k wr) (hf : Fr nothing (wr.alloc O) w6) (hr : r = (k + m) % cl.length) (hc : c = cellAt cl k) (hk : k < cl.length) (w7 : World)
    (e7 : w7 = ((((((w6.setCell ⟨w2.heap.size + 1, r * 6, none⟩ (.int .i64 (mvB m cl.length c.l).k)).setCell ⟨w2.heap.size + 1, r * 6 + 1, none⟩ (.int .i64 (mvB m cl.length c.l).n)).setCell ⟨w2.heap.size + 1, r * 6 + 2, none⟩ (.string (mvB m cl.length c.l).t)).setCell ⟨w2.heap.size + 1, r * 6 + 3, none⟩ (.int .i64 (mvB m cl.length c.r).k)).setCell ⟨w2.heap.size + 1, r * 6 + 4, none⟩ (.int .i64 (mvB m cl.length c.r).n)).setCell ⟨w2.heap.size + 1, r * 6 + 5, none⟩ (.string (mvB m cl.length c.r).t))) :
    Hid (MvG w w2 m cl (k + 1) w7) := by
  obtain ⟨h1, h2, h3⟩ := h
  have hrl : r < cl.length := by rw [hr]; exact Nat.mod_lt _ (by omega)
  have hs := h1.size
  simp only [World.size_alloc] at hs
  have hr6 := owns_fr (h3.alloc O) hf (fun _ _ => id)
  have hst := owns_store6 hr6 (gk_length m cl k) r hrl (mvC m cl.length c)
  refine ⟨?_, h2, ?_⟩
  · have hb6 : Below (w2.heap.size + 1) (w2.alloc (.cells #[.int .i64 cl.length] 3)) w6 := (h1.alloc (by omega) O).trans (hf.below (by simp; omega) (fun _ _ => id))
    subst e7
    refine Below.setCell (Below.setCell (Below.setCell (Below.setCell (Below.setCell (Below.setCell hb6 ?_ _) ?_ _) ?_ _) ?_ _) ?_ _) ?_ _
    all_goals exact Nat.le_refl _
  · subst e7
    have e : gk m cl (k + 1) = (gk m cl k).set r (mvC m cl.length c) := by rw [hr, hc]; rfl
    rw [e]
    exact hst

theorem moved_row {wg w5 w6 : World} {m n : Nat} {vl : List Val} {k g cp : Nat} {oa : Option Addr} {oc : Nat} {rv : Val} {O : Obj} (hk : k < vl.length) (hr6 : w6.ownsRow wg.heap.size 25 3 (.slice (some ⟨g, 0, none⟩) (k + 1) cp) (k + 1) (((vl.take k).map (mvB m n)).flatMap encV ++ encV rv)) (hrv : mvB m n vl[k] = rv) (hb5 : Below wg.heap.size wg w5)
    (hg6 : (w5.alloc O).grownBy w6 (Value.slice oa k oc).ownBlock) (hr5 : w5.ownsRow wg.heap.size 25 3 (.slice oa k oc) k (((vl.take k).map (mvB m n)).flatMap encV)) :
    w6.ownsRow wg.heap.size 25 3 (.slice (some ⟨g, 0, none⟩) (k + 1) cp) (k + 1) (((vl.take (k + 1)).map (mvB m n)).flatMap encV) ∧ Below wg.heap.size wg w6 := by
  refine ⟨?_, (hb5.alloc hb5.size O).grown hg6 (by simp; have := hb5.size; omega) (fun j hj => (hr5.lt j hj).1)⟩
  rw [List.take_succ_eq_append_getElem hk, List.map_append, List.flatMap_append, List.map_cons, List.map_nil, hrv]
  simpa using hr6

set_option maxHeartbeats 1000000 in
theorem moved_law (cl : List Cel) (vl : List Val) (hv lv : Value) (b : Int) (w : World) (hh : Sl encC 6 w hv cl) (hl : Sl encV 3 w lv vl) (wc : ∀ c ∈ cl, WfC c) (wl : ∀ v ∈ vl, WfV v) (hmh : cl.length * 64 ≤ 140737488351232) (hml : vl.length * 32 ≤ 140737488351232) (ht : Tab w) :
    Calls Tryd.prog 5 #[hv, lv, .int .i64 b] w fun e w' => e = .returned (.bool true) ∧ Below w.heap.size w w' := by
  obtain ⟨la, lc, rfl, hll, q1⟩ := id hl
  obtain ⟨ha, hcp, rfl, hhl, q2⟩ := id hh
  clear q1 q2
  unfold maxLen at hll hhl
  have HX := hide (And.intro hh (And.intro hl (And.intro wc (And.intro wl ht))))
  clear hh hl wc wl ht
  obtain ⟨i0, hi0, hz0, hz1, hz2⟩ := info_parts size43
  obtain ⟨j0, hj0, hy0, hy1, hy2⟩ := info_parts size25
  go_enter Tryd.func5, Tryd.ntmps5
  go_wp2_with fail
  refine (alive_any _ (Lib.tabIs_alloc HX.out.2.2.2.2 _)).mono ?_
  rintro e w1 ⟨rfl, hb1⟩
  have B1 : Hid (Below w.heap.size w w1) := ((Below.refl _ w).alloc (Nat.le_refl _) _).trans (hb1.mono (by simp))
  have c1 := (hb1.cell (p := ⟨w.heap.size, 0, none⟩) (by simp)).trans (World.cell?_alloc_new _ _ _ _)
  have s1 := hb1.size
  simp only [World.size_alloc] at s1
  simp only [List.getElem?_toArray, List.getElem?_cons_zero] at c1
  clear hb1
  go_wp2_with fail
  refine (right_any cl vl _ _ w1 (HX.out.1.below B1.out (Nat.le_refl _)) (HX.out.2.1.below B1.out (Nat.le_refl _)) HX.out.2.2.1 HX.out.2.2.2.1).mono ?_
  rintro e w2 ⟨rfl, hb2⟩
  have B2 : Hid (Below w.heap.size w w2) := B1.out.trans (hb2.mono B1.out.size)
  have c2 := (hb2.cell (p := ⟨w.heap.size, 0, none⟩) (by show w.heap.size < _; omega)).trans c1
  have s2 : w.heap.size < w2.heap.size := by have := hb2.size; omega
  clear hb2 c1 s1 B1
  have HOKr : Hid (rightB cl vl = true → (∀ v ∈ vl, RightV cl.length v) ∧ ∀ c ∈ cl, RightV cl.length c.l ∧ RightV cl.length c.r) := fun hr => by
    simp only [rightB, Bool.and_eq_true, List.all_eq_true] at hr
    refine ⟨fun v hv => right_vals (hr.1 v hv), fun c hc => ?_⟩
    have := hr.2 c hc
    simp only [okC, Bool.and_eq_true] at this
    exact ⟨right_vals this.1, right_vals this.2⟩
  cases hr : rightB cl vl
  · go_wp2
    go_ret
    exact ⟨rfl, B2.out⟩
  · by_cases hb0 : b < 0
    · go_wp2
      go_ret
      exact ⟨rfl, B2.out⟩
    · by_cases hbn : (cl.length : Int) ≤ b
      · go_wp2
        go_ret
        exact ⟨rfl, B2.out⟩
      · obtain ⟨m, rfl⟩ : ∃ m : Nat, b = m := ⟨b.toNat, by omega⟩
        have hm : m < cl.length := by omega
        have HOK := hide (HOKr.out hr)
        clear HOKr
        go_wp2_with (at_make; refine wpList_make_full _ rfl _ _ 22 rfl (w2.heap.size + 1) 43 i0 _ 6 Tryd.underlying22 hi0 hz0 hz1 .i64 .i64 _ _ cl.length rfl rfl rfl rfl (by rw [hz2]; omega) (by unfold maxLen; omega) (by simp) ?_; intro w3 hown3 hgrow3)
        have e3 : (w2.alloc (Obj.cells #[Value.int IntKind.i64 cl.length] 3)).heap.size = w2.heap.size + 1 := by simp
        rw [e3, made_zero] at hown3
        have HS : Hid (MvG w w2 m cl 0 w3) := ⟨((Fr.refl nothing _).grown hgrow3 (fun k hk => by cases hk)).below (by simp) (fun _ _ => id), B2.out, hown3⟩
        have c2' := c2
        clear hown3 hgrow3 e3
        go_loopw [42] (fun v42 wr => ∃ k : Nat, k ≤ cl.length ∧ v42 = .int .i64 k ∧ Hid (MvG w w2 m cl k wr)) (fun i _ => cl.length - (intOf i).toNat)
        case atStart => exact ⟨0, Nat.zero_le _, rfl, HS⟩
        case round =>
          obtain ⟨k, hk, rfl, hC⟩ := hrel
          clear HS
          by_cases hlt : k < cl.length
          · obtain ⟨b, off, cap, he, hb, x0, x1, x2, x3, x4, x5⟩ := cels_of_sl HX.out.1 hlt
            obtain ⟨rfl, rfl⟩ : ha = some ⟨b, off, none⟩ ∧ hcp = cap := by simpa using he
            obtain ⟨hb3, _, hrow⟩ := hC.out
            have hsz := hb3.size
            simp only [World.size_alloc] at hsz
            have hold : Hid (Below w.heap.size w wr) := (B2.out.trans (((Below.refl _ w2).alloc (Nat.le_refl _) _).mono B2.out.size)).trans (hb3.mono (by omega))
            rw [← hold.out.cell (p := ⟨b, _, none⟩) hb] at x0 x1 x2 x3 x4 x5
            generalize hcc : cl[k] = c at x0 x1 x2 x3 x4 x5
            have HCC := hide hcc
            clear hcc
            have cb := (hb3.cell (p := ⟨w.heap.size, 0, none⟩) (by show w.heap.size < _; omega)).trans ((World.cell?_alloc_past _ _ _ s2).trans c2)
            have cn := (hb3.cell (p := ⟨w2.heap.size, 0, none⟩) (by show w2.heap.size < _; omega)).trans (World.cell?_alloc_new _ _ _ _)
            simp only [List.getElem?_toArray, List.getElem?_cons_zero] at cn
            have gl : w2.heap.size + 1 < wr.heap.size := (hrow.lt _ rfl).2
            have HR := hide hrow
            have H3 := hide hb3
            clear hrow hb3 he
            obtain ⟨r, hrm⟩ : ∃ r, r = (k + m) % cl.length := ⟨_, rfl⟩
            have hrl : r < cl.length := by rw [hrm]; exact Nat.mod_lt _ (by omega)
            have hwa : IntKind.i64.wrap ((k : Int) + (m : Int)) = (k : Int) + (m : Int) := wrapE (by omega) (by omega)
            have hn1 : ¬ cl.length = 0 := by omega
            have hwm : ((k : Int) + (m : Int)).tmod (cl.length : Int) = (r : Int) := rem_eq hrm
            have hr0 : (0 : Int) ≤ (r : Int) := by omega
            have hr1 : (r : Int) < (cl.length : Int) := by omega
            have HRM := hide hrm
            clear hrm
            have okk := HOK.out.2 c (by rw [← HCC.out]; exact List.getElem_mem hlt)
            have W4 : Hid (∀ w', Fr (fun j => j = w2.heap.size + 1) (wr.alloc (.cells #[.int .i64 c.l.k, .int .i64 c.l.n, .string c.l.t, .int .i64 c.r.k, .int .i64 c.r.n, .string c.r.t] 43)) w' → w'.cell? ⟨w.heap.size, 0, none⟩ = some (.int .i64 m) ∧ w'.cell? ⟨w2.heap.size, 0, none⟩ = some (.int .i64 cl.length) ∧ w'.cell? ⟨wr.heap.size, 0, none⟩ = some (.int .i64 c.l.k) ∧ w'.cell? ⟨wr.heap.size, 1, none⟩ = some (.int .i64 c.l.n) ∧ w'.cell? ⟨wr.heap.size, 2, none⟩ = some (.string c.l.t) ∧ w'.cell? ⟨wr.heap.size, 3, none⟩ = some (.int .i64 c.r.k) ∧ w'.cell? ⟨wr.heap.size, 4, none⟩ = some (.int .i64 c.r.n) ∧ w'.cell? ⟨wr.heap.size, 5, none⟩ = some (.string c.r.t)) := fun w' hf => by
              have f1 := fun j => (hf.cell (p := ⟨wr.heap.size, j, none⟩) (by simp) (by show ¬ wr.heap.size = _; omega)).trans (World.cell?_alloc_new _ _ _ _)
              exact ⟨(hf.cell (p := ⟨w.heap.size, 0, none⟩) (by simp; omega) (by show ¬ w.heap.size = _; omega)).trans ((World.cell?_alloc_past _ _ _ (by omega)).trans cb), (hf.cell (p := ⟨w2.heap.size, 0, none⟩) (by simp; omega) (by show ¬ w2.heap.size = _; omega)).trans ((World.cell?_alloc_past _ _ _ (by omega)).trans cn), f1 0, f1 1, f1 2, f1 3, f1 4, f1 5⟩
            have D4 : Hid (Fr nothing (wr.alloc (.cells #[.int .i64 c.l.k, .int .i64 c.l.n, .string c.l.t, .int .i64 c.r.k, .int .i64 c.r.n, .string c.r.t] 43)) (wr.alloc (.cells #[.int .i64 c.l.k, .int .i64 c.l.n, .string c.l.t, .int .i64 c.r.k, .int .i64 c.r.n, .string c.r.t] 43)).drew) := (Fr.refl _ _).drew
            go_wp2_with fail
            have cmv : Hid (∀ v, RightV cl.length v → ∀ w', Fr nothing (wr.alloc (.cells #[.int .i64 c.l.k, .int .i64 c.l.n, .string c.l.t, .int .i64 c.r.k, .int .i64 c.r.n, .string c.r.t] 43)) w' → Calls Tryd.prog 22 #[vv v, .pointer (some ⟨w.heap.size, 0, none⟩), .pointer (some ⟨w2.heap.size, 0, none⟩)] w' fun e w'' => e = .returned (vv (mvB m cl.length v)) ∧ Fr nothing (wr.alloc (.cells #[.int .i64 c.l.k, .int .i64 c.l.n, .string c.l.t, .int .i64 c.r.k, .int .i64 c.r.n, .string c.r.t] 43)) w'') := fun v hv w' hf =>
              (move_any v m cl.length w' w.heap.size w2.heap.size hv (W4.out w' (hf.mono (fun _ _ h => h.elim))).1 (W4.out w' (hf.mono (fun _ _ h => h.elim))).2.1 hm (by omega)).mono fun e w'' h => ⟨h.1, hf.trans (Fr.of_below h.2 (Nat.le_refl _) _)⟩
            have RT : Hid (∀ w6, Fr nothing (wr.alloc (.cells #[.int .i64 c.l.k, .int .i64 c.l.n, .string c.l.t, .int .i64 c.r.k, .int .i64 c.r.n, .string c.r.t] 43)) w6 → (∃ x : Cel, w6.cell? ⟨w2.heap.size + 1, r * 6, none⟩ = some (.int .i64 x.l.k) ∧ w6.cell? ⟨w2.heap.size + 1, r * 6 + 1, none⟩ = some (.int .i64 x.l.n) ∧ w6.cell? ⟨w2.heap.size + 1, r * 6 + 2, none⟩ = some (.string x.l.t) ∧ w6.cell? ⟨w2.heap.size + 1, r * 6 + 3, none⟩ = some (.int .i64 x.r.k) ∧ w6.cell? ⟨w2.heap.size + 1, r * 6 + 4, none⟩ = some (.int .i64 x.r.n) ∧ w6.cell? ⟨w2.heap.size + 1, r * 6 + 5, none⟩ = some (.string x.r.t) ∧
                w6.frozen? ⟨w2.heap.size + 1, r * 6, none⟩ = false ∧ w6.frozen? ⟨w2.heap.size + 1, r * 6 + 1, none⟩ = false ∧ w6.frozen? ⟨w2.heap.size + 1, r * 6 + 2, none⟩ = false ∧ w6.frozen? ⟨w2.heap.size + 1, r * 6 + 3, none⟩ = false ∧ w6.frozen? ⟨w2.heap.size + 1, r * 6 + 4, none⟩ = false ∧ w6.frozen? ⟨w2.heap.size + 1, r * 6 + 5, none⟩ = false) ∧ w2.heap.size + 1 < w6.heap.size) := fun w6 hf6 => by
              have hr6 := owns_fr (HR.out.alloc (.cells #[.int .i64 c.l.k, .int .i64 c.l.n, .string c.l.t, .int .i64 c.r.k, .int .i64 c.r.n, .string c.r.t] 43)) hf6 (fun _ _ => id)
              exact ⟨row_there hr6 (gk_length m cl k) hrl, (hr6.lt _ rfl).2⟩
            have KS : Hid (∀ w6 v0 v1 v2 v3 v4 v5 w', w' = ((((((w6.setCell ⟨w2.heap.size + 1, r * 6, none⟩ v0).setCell ⟨w2.heap.size + 1, r * 6 + 1, none⟩ v1).setCell ⟨w2.heap.size + 1, r * 6 + 2, none⟩ v2).setCell ⟨w2.heap.size + 1, r * 6 + 3, none⟩ v3).setCell ⟨w2.heap.size + 1, r * 6 + 4, none⟩ v4).setCell ⟨w2.heap.size + 1, r * 6 + 5, none⟩ v5) → Fr nothing (wr.alloc (.cells #[.int .i64 c.l.k, .int .i64 c.l.n, .string c.l.t, .int .i64 c.r.k, .int .i64 c.r.n, .string c.r.t] 43)) w6 → w'.cell? ⟨w.heap.size, 0, none⟩ = some (.int .i64 m) ∧ w'.cell? ⟨w2.heap.size, 0, none⟩ = some (.int .i64 cl.length) ∧ w'.cell? ⟨wr.heap.size, 0, none⟩ = some (.int .i64 c.l.k) ∧ w'.cell? ⟨wr.heap.size, 1, none⟩ = some (.int .i64 c.l.n) ∧ w'.cell? ⟨wr.heap.size, 2, none⟩ = some (.string c.l.t) ∧ w'.cell? ⟨wr.heap.size, 3, none⟩ = some (.int .i64 c.r.k) ∧ w'.cell? ⟨wr.heap.size, 4, none⟩ = some (.int .i64 c.r.n) ∧ w'.cell? ⟨wr.heap.size, 5, none⟩ = some (.string c.r.t)) := fun w6 v0 v1 v2 v3 v4 v5 w' e hf6 => by
              refine W4.out w' ?_
              subst e
              refine Fr.setCell (Fr.setCell (Fr.setCell (Fr.setCell (Fr.setCell (Fr.setCell (hf6.mono (fun _ _ h => h.elim)) ?_ _) ?_ _) ?_ _) ?_ _) ?_ _) ?_ _
              all_goals exact .inl rfl
            have D4S := hide (W4.out _ (D4.out.mono (fun _ _ h => h.elim)))
            clear cb cn x0 x1 x2 x3 x4 x5
            go_region_held3 (fun w' => w'.cell? ⟨w.heap.size, 0, none⟩ = some (.int .i64 m) ∧ w'.cell? ⟨w2.heap.size, 0, none⟩ = some (.int .i64 cl.length) ∧ w'.cell? ⟨wr.heap.size, 0, none⟩ = some (.int .i64 c.l.k) ∧ w'.cell? ⟨wr.heap.size, 1, none⟩ = some (.int .i64 c.l.n) ∧ w'.cell? ⟨wr.heap.size, 2, none⟩ = some (.string c.l.t) ∧ w'.cell? ⟨wr.heap.size, 3, none⟩ = some (.int .i64 c.r.k) ∧ w'.cell? ⟨wr.heap.size, 4, none⟩ = some (.int .i64 c.r.n) ∧ w'.cell? ⟨wr.heap.size, 5, none⟩ = some (.string c.r.t)) (first | with_reducible exact D4S.out | with_reducible exact H5S.out | with_reducible exact H6S.out | with_reducible exact KS.out w6 _ _ _ _ _ _ _ rfl H6.out)
              (first
                | (go_at_call_of 22 (c.l.k); refine (cmv.out c.l okk.1 _ D4.out).mono ?_; rintro e w5 ⟨rfl, hf5⟩; have H5 := hide hf5; have H5S := hide (W4.out w5 (hf5.mono (fun _ _ h => h.elim))); clear hf5)
                | (go_at_call_of 22 (c.r.k); refine (cmv.out c.r okk.2 _ H5.out).mono ?_; rintro e w6 ⟨rfl, hf6⟩; have H6 := hide hf6; have H6S := hide (W4.out w6 (hf6.mono (fun _ _ h => h.elim))); obtain ⟨⟨xo, z0, z1, z2, z3, z4, z5, y0, y1, y2, y3, y4, y5⟩, gl6⟩ := RT.out w6 hf6; clear hf6))
            go_wp2
            go_roundw
            case rel => exact ⟨k + 1, by omega, by go_num, mvG_step hC.out H6.out HRM.out (by rw [← HCC.out]; exact cellAt_get hlt) hlt _ rfl⟩
            case measure => simp [intOf]; omega
          · obtain rfl : k = cl.length := by omega
            obtain ⟨wg, hwg⟩ : ∃ wg, wg = wr := ⟨_, rfl⟩
            rw [← hwg] at hC ⊢
            clear hwg
            have hC2 := hC.out
            have hszg := hC2.1.size
            simp only [World.size_alloc] at hszg
            have holdg : Hid (Below w.heap.size w wg) := (B2.out.trans (((Below.refl _ w2).alloc (Nat.le_refl _) _).mono B2.out.size)).trans (hC2.1.mono (by omega))
            have cb := (hC2.1.cell (p := ⟨w.heap.size, 0, none⟩) (by show w.heap.size < _; omega)).trans ((World.cell?_alloc_past _ _ _ s2).trans c2)
            have cn := (hC2.1.cell (p := ⟨w2.heap.size, 0, none⟩) (by show w2.heap.size < _; omega)).trans (World.cell?_alloc_new _ _ _ _)
            simp only [List.getElem?_toArray, List.getElem?_cons_zero] at cn
            have HG : Hid (Sl encC 6 wg (.slice (some ⟨w2.heap.size + 1, 0, none⟩) cl.length cl.length) (gk m cl cl.length)) := sl_of_owns encC_length (by rw [gk_length]; exact hC2.2.2)
            clear hC2 hC
            go_wp2_with fail
            go_loopw [12, 66] (fun v12 v66 wr => ∃ (k : Nat) (oa : Option Addr) (oc : Nat), k ≤ vl.length ∧ v66 = .int .i64 k ∧ v12 = .slice oa k oc ∧ Hid (wr.ownsRow wg.heap.size 25 3 (.slice oa k oc) k (((vl.take k).map (mvB m cl.length)).flatMap encV) ∧ Below wg.heap.size wg wr)) (fun _ i _ => vl.length - (intOf i).toNat)
            case atStart => exact ⟨0, none, 0, Nat.zero_le _, rfl, rfl, World.ownsRow_nil _ _ _ _, Below.refl _ _⟩
            case round =>
              obtain ⟨k, oa, oc, hk, rfl, rfl, hR⟩ := hrel
              by_cases hlt : k < vl.length
              · obtain ⟨b, off, cap, he, hb, x0, x1, x2⟩ := vals_of_sl HX.out.2.1 hlt
                obtain ⟨rfl, rfl⟩ : la = some ⟨b, off, none⟩ ∧ lc = cap := by simpa using he
                have hold : Hid (Below w.heap.size w wr) := holdg.out.trans (hR.out.2.mono holdg.out.size)
                rw [← hold.out.cell (p := ⟨b, _, none⟩) hb] at x0 x1 x2
                have hsr := hR.out.2.size
                have db := (hR.out.2.cell (p := ⟨w.heap.size, 0, none⟩) (by show w.heap.size < _; omega)).trans cb
                have dn := (hR.out.2.cell (p := ⟨w2.heap.size, 0, none⟩) (by show w2.heap.size < _; omega)).trans cn
                have hgr : wg.heap.size ≤ wr.heap.size := hsr
                have HD := hide (And.intro db dn)
                clear he db dn
                go_wp2_with fail
                refine (move_any vl[k] m cl.length _ w.heap.size w2.heap.size (HOK.out.1 _ (List.getElem_mem hlt)) ((World.cell?_alloc_past _ _ _ (by omega)).trans HD.out.1) ((World.cell?_alloc_past _ _ _ (by omega)).trans HD.out.2) hm (by omega)).mono ?_
                rintro e w5 ⟨rfl, hb5⟩
                have hr5 := owns_fr (hR.out.1.alloc _) (Fr.of_below hb5 (Nat.le_refl _) nothing) (fun _ _ => id)
                have B5 : Hid (Below wg.heap.size wg w5) := (hR.out.2.alloc hgr _).trans (hb5.mono (by simp; omega))
                have g5 : wg.heap.size ≤ w5.heap.size := B5.out.size
                clear hb5
                generalize hrv : mvB m cl.length vl[k] = rv
                have HRV := hide hrv
                clear hrv
                go_wp2_with (at_builtin; go_must (refine wpList_append_lies _ rfl _ _ 23 rfl wg.heap.size 25 j0 _ 3 32 Tryd.underlying23 hj0 hy0 hy1 hy2 rfl (by decide) (.slice oa k oc) k _ rfl (hr5.alloc _) ⟨w5.heap.size, 0, none⟩ 1 1 (encV rv) rfl rfl (newV _ _ _) (encV_one _) (by decide) (by unfold maxLen; omega) (by omega) (by simp; omega) _ rfl ?_); intro g cp w6 hr6 hg6 hat6 hlt6)
                have HE := hide (moved_row hlt hr6 HRV.out B5.out hg6 hr5)
                clear hr6 hg6 hat6 hr5
                go_roundw
                case rel => exact ⟨k + 1, some ⟨g, 0, none⟩, cp, by omega, by go_num, rfl, HE⟩
                case measure => simp [intOf]; omega
              · obtain rfl : k = vl.length := by omega
                have hrow := hR.out.1
                rw [List.take_length] at hrow
                have HM : Hid (Sl encV 3 wr (.slice oa vl.length oc) (vl.map (mvB m cl.length))) := sl_of_owns encV_length (by rw [List.length_map]; exact hrow)
                have hold : Hid (Below w.heap.size w wr) := holdg.out.trans (hR.out.2.mono holdg.out.size)
                have HG2 : Hid (Sl encC 6 wr (.slice (some ⟨w2.heap.size + 1, 0, none⟩) cl.length cl.length) (gk m cl cl.length)) := HG.out.below hR.out.2 (Nat.le_refl _)
                clear hrow hR
                go_wp2_with fail
                refine (canon_any cl vl _ _ wr (HX.out.1.below hold.out (Nat.le_refl _)) (HX.out.2.1.below hold.out (Nat.le_refl _)) hmh hml).mono ?_
                rintro e w7 ⟨xv, kv, rfl, hx7, hk7, hb7⟩
                have H7 := hide (And.intro hx7 (And.intro hk7 hb7))
                clear hx7 hk7 hb7
                go_wp2_with fail
                refine (canon_any (gk m cl cl.length) (vl.map (mvB m cl.length)) _ _ w7 (HG2.out.below H7.out.2.2 (Nat.le_refl _)) (HM.out.below H7.out.2.2 (Nat.le_refl _)) (by rw [gk_length]; exact hmh) (by rw [List.length_map]; exact hml)).mono ?_
                rintro e w8 ⟨yv, jv, rfl, hy8, hj8, hb8⟩
                rw [show vl.map (mvB m cl.length) = vl.map (mv (fun i => (i + m) % cl.length) cl.length) from rfl, (gk_sim hm HOK.out.2).canonV (fun v hv => by rw [gk_length]; exact fits_all (HOK.out.1 v hv))] at hy8
                rw [show vl.map (mvB m cl.length) = vl.map (mv (fun i => (i + m) % cl.length) cl.length) from rfl, (gk_sim hm HOK.out.2).canonC (fun v hv => by rw [gk_length]; exact fits_all (HOK.out.1 v hv))] at hj8
                have H8 := hide (And.intro hy8 (And.intro hj8 (And.intro (H7.out.1.below hb8 (Nat.le_refl _)) (H7.out.2.1.below hb8 (Nat.le_refl _)))))
                have B8 : Hid (Below w.heap.size w w8) := (hold.out.trans (H7.out.2.2.mono hold.out.size)).trans (hb8.mono (Nat.le_trans hold.out.size H7.out.2.2.size))
                clear hy8 hj8 hb8
                go_wp2_with fail
                refine (sameVals_yes (canonV cl vl) _ _ w8 H8.out.2.2.1 H8.out.1).mono ?_
                rintro e w9 ⟨rfl, hb9⟩
                have H9 := hide hb9
                clear hb9
                go_wp2_with fail
                refine (sameCels_yes (canonC cl vl) _ _ w9 (H8.out.2.2.2.below H9.out (Nat.le_refl _)) (H8.out.2.1.below H9.out (Nat.le_refl _))).mono ?_
                rintro e w10 ⟨rfl, hb10⟩
                have H10 := hide hb10
                clear hb10
                go_wp2
                go_ret
                exact ⟨rfl, (B8.out.trans (H9.out.mono B8.out.size)).trans (H10.out.mono (Nat.le_trans B8.out.size H9.out.size))⟩
end Go.Proofs.YtcemfgknnpjlhaaDoor
