/- The document's Canon: the same as the program's. -/
import Derived.Test.YtcemfgknnpjlhaaDoorRefMeet
namespace Go.Proofs.YtcemfgknnpjlhaaDoor
open Go.RowKit Go.Ws

def negL (n k : Nat) : List Value := (List.range n).map fun i => .int .i64 (if i < k then -1 else 0)
theorem negL_length (n k : Nat) : (negL n k).length = n := by simp [negL]
theorem negL_get {n k i : Nat} (h : i < n) : (negL n k)[i]? = some (.int .i64 (if i < k then -1 else 0)) := by simp [negL, h]
theorem negL_set {n k : Nat} (_hk : k < n) : (negL n k).set k (.int .i64 (-1)) = negL n (k + 1) := by
  apply List.ext_getElem?
  intro j
  by_cases hj : j < n
  · rw [negL_get hj]
    by_cases e : j = k
    · subst e
      rw [List.getElem?_set_self (by rw [negL_length]; exact hj), if_pos (by omega)]
    · rw [List.getElem?_set_ne (fun x => e x.symm), negL_get hj]
      by_cases hl : j < k
      · rw [if_pos hl, if_pos (by omega)]
      · rw [if_neg hl, if_neg (by omega)]
  · rw [List.getElem?_eq_none (by simp [negL_length]; omega), List.getElem?_eq_none (by rw [negL_length]; omega)]
theorem negL_all (n : Nat) : negL n n = placeL n [] := by
  unfold negL placeL
  refine List.map_congr_left fun i hi => ?_
  rw [if_pos (by simpa using hi)]
  rfl
theorem made_int (n : Nat) : (madeCells (Value.int .i64 0).cells (n * 1)).toList = negL n 0 := by
  apply List.ext_getElem?
  intro j
  by_cases hj : j < n
  · rw [negL_get hj]
    simp [madeCells, Value.cells, hj, Nat.mod_one]
  · rw [List.getElem?_eq_none (by simp [madeCells]; omega), List.getElem?_eq_none (by rw [negL_length]; omega)]
theorem RI.there {w0 : World} {n : Nat} {o : List Nat} {oa : Option Addr} {oc m : Nat} {w : World} (h : RI w0 n o (.slice oa m oc) w) {d : Nat} (hd : d < o.length) : ∃ g, oa = some ⟨g, 0, none⟩ ∧ m = o.length ∧ g < w.heap.size ∧ w.cell? ⟨g, d, none⟩ = some (.int .i64 (o[d] : Nat)) := by
  rcases h.row.2 with ⟨_, h0⟩ | ⟨g, c, cur, he, hr⟩
  · omega
  · obtain ⟨rfl, rfl, rfl⟩ : oa = some ⟨g, 0, none⟩ ∧ m = o.length ∧ oc = c := by simpa using he
    refine ⟨g, rfl, rfl, (h.row.lt g rfl).2, ?_⟩
    rw [h.row.cellAt _ (by omega)]
    simp [orderL, List.getElem?_eq_getElem hd]
/-- The worlds of the first loop. -/
def L1 (w : World) (n : Nat) (k : Nat) (wr : World) : Prop :=
  Below w.heap.size w wr ∧ wr.heap.size = w.heap.size + 2 ∧ wr.cell? ⟨w.heap.size + 1, 0, none⟩ = some (.slice (some ⟨w.heap.size, 0, none⟩) n n) ∧ wr.ownsRow w.heap.size 3 1 (.slice (some ⟨w.heap.size, 0, none⟩) n n) n (negL n k)
theorem l1_step {w wr : World} {n k : Nat} (h : L1 w n k wr) (hk : k < n) : Hid (L1 w n (k + 1) (wr.setCell ⟨w.heap.size, k, none⟩ (.int .i64 (-1)))) := by
  obtain ⟨h1, h2, h3, h4⟩ := h
  have F : Fr (fun j => j = w.heap.size) wr (wr.setCell ⟨w.heap.size, k, none⟩ (.int .i64 (-1))) := Fr.setCell (Fr.refl (fun j => j = w.heap.size) wr) (p := ⟨w.heap.size, k, none⟩) (.inl rfl) _
  refine ⟨h1.trans (F.below (by omega) (fun j hj e => by omega)), by simpa [World.setCell] using h2, (F.cell (p := ⟨w.heap.size + 1, 0, none⟩) (by show w.heap.size + 1 < _; omega) (by show ¬ w.heap.size + 1 = _; omega)).trans h3, ?_⟩
  rw [← negL_set hk]
  exact (h4.stored k _).1
theorem l1_end {w wr : World} {n : Nat} (h : L1 w n n wr) : Hid (RI w n [] (.slice none 0 0) (wr.alloc (.cells #[.slice none 0 0] 54))) := by
  obtain ⟨h1, h2, h3, h4⟩ := h
  rw [negL_all] at h4
  refine { old := h1.alloc (by omega) _, big := by simp; omega, pbox := (World.cell?_alloc_past _ _ _ (by omega)).trans h3, place := h4.alloc _, obox := ?_, ofz := ?_, row := World.ownsRow_nil _ _ _ _ }
  · rw [World.cell?_alloc_at _ _ _ _ (by omega)]; rfl
  · rw [World.frozen?_alloc_at _ _ _ _ (by omega)]
/-- The worlds of the inner loop. -/
def L3 (w : World) (cl : List Cel) (vl : List Val) (k d : Nat) (wr : World) : Prop :=
  ∃ o ow, Ok cl.length o ∧ d ≤ o.length ∧ close cl (cl.length - d) o d = ordL cl (vl.take (k + 1)) ∧ RI w cl.length o ow wr

theorem vrow_step {f : Val → Val} {wg w5 w6 : World} {vl : List Val} {k g cp : Nat} {oa : Option Addr} {oc : Nat} {rv : Val} {O : Obj} (hk : k < vl.length) (hr6 : w6.ownsRow wg.heap.size 25 3 (.slice (some ⟨g, 0, none⟩) (k + 1) cp) (k + 1) (((vl.take k).map f).flatMap encV ++ encV rv)) (hrv : f vl[k] = rv) (hb5 : Below wg.heap.size wg w5)
    (hg6 : (w5.alloc O).grownBy w6 (Value.slice oa k oc).ownBlock) (hr5 : w5.ownsRow wg.heap.size 25 3 (.slice oa k oc) k (((vl.take k).map f).flatMap encV)) :
    w6.ownsRow wg.heap.size 25 3 (.slice (some ⟨g, 0, none⟩) (k + 1) cp) (k + 1) (((vl.take (k + 1)).map f).flatMap encV) ∧ Below wg.heap.size wg w6 := by
  refine ⟨?_, (hb5.alloc hb5.size O).grown hg6 (by simp; have := hb5.size; omega) (fun j hj => (hr5.lt j hj).1)⟩
  rw [List.take_succ_eq_append_getElem hk, List.map_append, List.flatMap_append, List.map_cons, List.map_nil, hrv]
  simpa using hr6
theorem crow_step {f : Nat → Cel} {wg w5 w6 : World} {o : List Nat} {k g cp : Nat} {oa : Option Addr} {oc : Nat} {rc : Cel} {O : Obj} (hk : k < o.length) (hr6 : w6.ownsRow wg.heap.size 43 6 (.slice (some ⟨g, 0, none⟩) (k + 1) cp) (k + 1) (((o.take k).map f).flatMap encC ++ encC rc)) (hrc : f o[k] = rc) (hb5 : Below wg.heap.size wg w5)
    (hg6 : (w5.alloc O).grownBy w6 (Value.slice oa k oc).ownBlock) (hr5 : w5.ownsRow wg.heap.size 43 6 (.slice oa k oc) k (((o.take k).map f).flatMap encC)) :
    w6.ownsRow wg.heap.size 43 6 (.slice (some ⟨g, 0, none⟩) (k + 1) cp) (k + 1) (((o.take (k + 1)).map f).flatMap encC) ∧ Below wg.heap.size wg w6 := by
  refine ⟨?_, (hb5.alloc hb5.size O).grown hg6 (by simp; have := hb5.size; omega) (fun j hj => (hr5.lt j hj).1)⟩
  rw [List.take_succ_eq_append_getElem hk, List.map_append, List.flatMap_append, List.map_cons, List.map_nil, hrc]
  simpa using hr6

set_option maxHeartbeats 1000000 in
theorem ref_canon (cl : List Cel) (vl : List Val) (hv lv : Value) (w : World) (hh : Sl encC 6 w hv cl) (hl : Sl encV 3 w lv vl) (hmh : cl.length * 64 ≤ 140737488351232) (hml : vl.length * 32 ≤ 140737488351232) (hr : (∀ c ∈ cl, RightV cl.length c.l ∧ RightV cl.length c.r) ∧ ∀ v ∈ vl, RightV cl.length v) :
    Calls Tryd.prog 16 #[hv, lv] w fun e w' => ∃ xv kv, e = .returned (.tuple #[xv, kv]) ∧ Sl encV 3 w' xv (canonV cl vl) ∧ Sl encC 6 w' kv (canonC cl vl) ∧ Below w.heap.size w w' := by
  obtain ⟨la, lc, rfl, hll, q1⟩ := id hl
  obtain ⟨ha, hcp, rfl, hhl, q2⟩ := id hh
  clear q1 q2
  have HX := hide (And.intro hh (And.intro hl hr))
  clear hh hl hr
  obtain ⟨i0, hi0, hz0, hz1, hz2⟩ := info_parts size3
  obtain ⟨j0, hj0, hy0, hy1, hy2⟩ := info_parts size25
  obtain ⟨c0, hc0, hx0, hx1, hx2⟩ := info_parts size43
  unfold maxLen at hll hhl
  have hmk := run_make (P := Tryd.prog) w 54 3 i0 _ Tryd.underlying54 hi0 hz0 .i64 .i64 cl.length cl.length (by omega) (Int.le_refl _) (by rw [hz2]; omega) (by omega)
  have hrow0 := World.ownsRow_lit (e := 3) w (madeCells (Value.int .i64 0).cells (cl.length * 1)) cl.length (size := 1) (Nat.le_refl w.heap.size) (by unfold maxLen; omega) (size_madeCells _ _)
  rw [made_int] at hrow0
  simp only [Int.toNat_natCast, hz1] at hmk
  generalize madeCells (Value.int .i64 0).cells (cl.length * 1) = A at hmk hrow0
  have HS : Hid (L1 w cl.length 0 ((w.alloc (.cells A 3)).alloc (.cells #[.slice (some ⟨w.heap.size, 0, none⟩) cl.length cl.length] 54))) := ⟨((Below.refl _ w).alloc (Nat.le_refl _) _).alloc (by simp) _, by simp, by rw [World.cell?_alloc_at _ _ _ _ (by simp)]; rfl, hrow0.alloc _⟩
  clear hrow0
  go_enter Tryd.func16, Tryd.ntmps16
  go_wp2_with fail
  go_loopw [25] (fun v25 wr => ∃ k : Nat, k ≤ cl.length ∧ v25 = .int .i64 k ∧ Hid (L1 w cl.length k wr)) (fun i _ => cl.length - (intOf i).toNat)
  case atStart => exact ⟨0, Nat.zero_le _, rfl, HS⟩
  case round =>
    obtain ⟨k, hk, rfl, hC⟩ := hrel
    clear HS
    obtain ⟨_, s1, pb, rw1⟩ := hC.out
    by_cases hlt : k < cl.length
    · have ck : wr.cell? ⟨w.heap.size, k, none⟩ = some (.int .i64 (if k < k then -1 else 0)) := by rw [rw1.cellAt _ (by omega)]; exact negL_get hlt
      have cz := rw1.frozenAt k
      rw [if_neg (by omega)] at ck
      have b0 : w.heap.size < wr.heap.size := by omega
      have b1 : w.heap.size + 1 < wr.heap.size := by omega
      clear rw1
      go_wp2
      go_roundw
      case rel => exact ⟨k + 1, by omega, by go_num, l1_step hC.out hlt⟩
      case measure => simp [intOf]; omega
    · obtain rfl : k = cl.length := by omega
      have RI0 := l1_end hC.out
      clear hC pb rw1
      obtain ⟨wa, hwa⟩ : ∃ wa, wa = wr := ⟨_, rfl⟩
      rw [← hwa] at RI0 s1 ⊢
      clear hwa
      go_wp2_with fail
      go_loopw [10, 35] (fun v10 v35 wr => ∃ k : Nat, k ≤ vl.length ∧ v35 = .int .i64 k ∧ v10 = .int .i64 ((ordL cl (vl.take k)).length : Nat) ∧ Hid (∃ ow, RI w cl.length (ordL cl (vl.take k)) ow wr)) (fun _ i _ => vl.length - (intOf i).toNat)
      case atStart => exact ⟨0, Nat.zero_le _, rfl, rfl, ⟨_, RI0.out⟩⟩
      case round =>
        obtain ⟨k, hk, rfl, rfl, hC⟩ := hrel
        clear RI0
        by_cases hlt : k < vl.length
        · obtain ⟨ow, hI⟩ := hC.out
          have hB : w.heap.size + 3 ≤ wr.heap.size := hI.big
          obtain ⟨b, off, cap, he, hb, x0, x1, x2⟩ := vals_of_sl HX.out.2.1 hlt
          obtain ⟨rfl, rfl⟩ : la = some ⟨b, off, none⟩ ∧ lc = cap := by simpa using he
          rw [← hI.old.cell (p := ⟨b, _, none⟩) hb] at x0 x1 x2
          have HI := hide hI
          have HO := hide (ordL_done cl (vl.take k))
          clear hI hC he
          go_wp2_with fail
          refine (meet_any w cl.length _ _ _ vl[k] (HI.out.fr ((Fr.refl nothing _).alloc _)) (HX.out.2.2.2 _ (List.getElem_mem hlt)) HO.out.1 hmh).mono ?_
          rintro e w2 ⟨rfl, ow2, hI2⟩
          have HS2 : Hid (L3 w cl vl k (ordL cl (vl.take k)).length w2) := ⟨_, ow2, meet_ok HO.out.1 _, (meet_pre _ _ _).length_le, by rw [ordL_take_succ cl vl k hlt]; rfl, hI2⟩
          have hOl : (ordL cl (vl.take k)).length ≤ cl.length := HO.out.1.le
          clear hI2 HI x0 x1 x2
          go_wp2_with fail
          go_loopw [10] (fun v10 wi => ∃ d : Nat, v10 = .int .i64 d ∧ d ≤ cl.length ∧ Hid (L3 w cl vl k d wi)) (fun i _ => cl.length - (intOf i).toNat)
          case atStart => exact ⟨_, rfl, hOl, HS2⟩
          case round =>
            obtain ⟨d, rfl, hdc, hC2⟩ := hrel
            clear HS2
            obtain ⟨o, ow', hok, hdo, hcl, hI3⟩ := hC2.out
            obtain ⟨oa, oc, rfl⟩ := hI3.shape
            have hob := hI3.obox
            have hB3 := hI3.big
            have hol := hok.le
            have b2 : w.heap.size + 2 < wr.heap.size := by omega
            have HP := hide (And.intro hok (And.intro hcl hI3))
            clear hok hcl hI3 hC2
            by_cases hd : d < o.length
            · obtain ⟨g, rfl, _, hg, y⟩ := HP.out.2.2.there hd
              have hod : o[d] < cl.length := HP.out.1.2 _ (List.getElem_mem hd)
              generalize hii : o[d] = ii at y hod
              have HII := hide hii
              clear hii
              obtain ⟨b1, off1, cap1, he1, hb1, d0, d1, d2, d3, d4, d5⟩ := cells_of_sl HX.out.1 hod
              obtain ⟨rfl, rfl⟩ : ha = some ⟨b1, off1, none⟩ ∧ hcp = cap1 := by simpa using he1
              have HC := hide (And.intro d0 (And.intro d1 (And.intro d2 (And.intro d3 (And.intro d4 d5)))))
              rw [← HP.out.2.2.old.cell (p := ⟨b1, _, none⟩) hb1] at d0 d1 d2
              have hbw : b1 < wr.heap.size := Nat.lt_of_lt_of_le hb1 HP.out.2.2.old.size
              have hrt := HX.out.2.2.1 _ (cellAt_mem hod)
              clear he1 d3 d4 d5
              go_wp2_with fail
              refine (meet_any w cl.length _ _ _ (cellAt cl ii).l HP.out.2.2 hrt.1 HP.out.1 hmh).mono ?_
              rintro e w4 ⟨rfl, ow4, hI4⟩
              obtain ⟨o1, ho1⟩ : ∃ o1, o1 = meet cl.length o (cellAt cl ii).l := ⟨_, rfl⟩
              rw [← ho1] at hI4
              have hp1 : o <+: o1 := by rw [ho1]; exact meet_pre _ _ _
              have hok1 : Ok cl.length o1 := by rw [ho1]; exact meet_ok HP.out.1 _
              have hd1 : d < o1.length := Nat.lt_of_lt_of_le hd hp1.length_le
              have hod1 : o1[d] = ii := (get_prefix hp1 hd).trans HII.out
              obtain ⟨oa4, oc4, rfl⟩ := hI4.shape
              have hob4 := hI4.obox
              obtain ⟨g4, rfl, _, hg4, y4⟩ := hI4.there hd1
              rw [hod1] at y4
              have hB4 := hI4.big
              have b4 : w.heap.size + 2 < w4.heap.size := by omega
              have ho1l := hok1.le
              obtain ⟨_, _, _, e3, e4, e5⟩ := HC.out
              rw [← hI4.old.cell (p := ⟨b1, _, none⟩) hb1] at e3 e4 e5
              have hbw4 : b1 < w4.heap.size := Nat.lt_of_lt_of_le hb1 hI4.old.size
              have H4 := hide (And.intro ho1 (And.intro hp1 (And.intro hok1 hI4)))
              clear ho1 hp1 hok1 hI4 hod1 d0 d1 d2 y hob
              go_wp2_with fail
              refine (meet_any w cl.length _ _ _ (cellAt cl ii).r H4.out.2.2.2 hrt.2 H4.out.2.2.1 hmh).mono ?_
              rintro e w5 ⟨rfl, ow5, hI5⟩
              have HS5 : Hid (L3 w cl vl k (d + 1) w5) := ⟨_, ow5, meet_ok H4.out.2.2.1 _, Nat.lt_of_lt_of_le hd1 (meet_pre _ _ _).length_le, by
                rw [← HP.out.2.1, close_go hol hd, H4.out.1]
                simp [List.getD_eq_getElem?_getD, List.getElem?_eq_getElem hd, HII.out, meetC], hI5⟩
              clear hI5 e3 e4 e5 y4 hob4
              go_wp2
              go_roundw
              case rel => exact ⟨d + 1, by go_num, by omega, HS5⟩
              case measure => simp [intOf]; omega
            · have hcl2 := HP.out.2.1
              rw [close_end (by omega)] at hcl2
              obtain rfl : d = o.length := by omega
              have hIe := hide (show ∃ ow, RI w cl.length (ordL cl (vl.take (k + 1))) ow wr from ⟨_, by rw [← hcl2]; exact HP.out.2.2⟩)
              rw [hcl2] at hob ⊢
              go_wp2
              go_roundw
              case rel => exact ⟨k + 1, by omega, by go_num, rfl, hIe⟩
              case measure => simp [intOf]; omega
        · obtain rfl : k = vl.length := by omega
          obtain ⟨ow, hI⟩ := hC.out
          rw [List.take_length] at hI
          obtain ⟨oa, oc, rfl⟩ := hI.shape
          have hob := hI.obox
          have hB := hI.big
          have hol : (ordL cl vl).length ≤ cl.length := (ordL_done cl vl).1.le
          have HI := hide hI
          rw [List.take_length]
          clear hI hC
          obtain ⟨wg, hwg⟩ : ∃ wg, wg = wr := ⟨_, rfl⟩
          rw [← hwg] at hob hB HI ⊢
          clear hwg
          have b2 : w.heap.size + 2 < wg.heap.size := by omega
          go_wp2_with fail
          go_loopw [14, 72] (fun v14 v72 wr => ∃ (k : Nat) (xa : Option Addr) (xc : Nat), k ≤ vl.length ∧ v72 = .int .i64 k ∧ v14 = .slice xa k xc ∧ Hid (wr.ownsRow wg.heap.size 25 3 (.slice xa k xc) k (((vl.take k).map (ren cl.length (ordL cl vl))).flatMap encV) ∧ Below wg.heap.size wg wr)) (fun _ i _ => vl.length - (intOf i).toNat)
          case atStart => exact ⟨0, none, 0, Nat.zero_le _, rfl, rfl, World.ownsRow_nil _ _ _ _, Below.refl _ _⟩
          case round =>
            obtain ⟨k, xa, xc, hk, rfl, rfl, hR⟩ := hrel
            by_cases hlt : k < vl.length
            · obtain ⟨b, off, cap, he, hb, x0, x1, x2⟩ := vals_of_sl HX.out.2.1 hlt
              obtain ⟨rfl, rfl⟩ : la = some ⟨b, off, none⟩ ∧ lc = cap := by simpa using he
              have hold : Hid (Below w.heap.size w wr) := HI.out.old.trans (hR.out.2.mono (by omega))
              rw [← hold.out.cell (p := ⟨b, _, none⟩) hb] at x0 x1 x2
              have hgr : wg.heap.size ≤ wr.heap.size := hR.out.2.size
              clear he
              go_wp2_with fail
              refine (rput_any w cl.length (ordL cl vl) _ vl[k] ((HI.out.pr.below hR.out.2).below ((Below.refl _ _).alloc (Nat.le_refl _) _)) (HX.out.2.2.2 _ (List.getElem_mem hlt)) hmh (fun hi => ordL_mem (List.getElem_mem hlt) hi)).mono ?_
              rintro e w5 ⟨rfl, hb5⟩
              have hr5 := owns_fr (hR.out.1.alloc _) (Fr.of_below hb5 (Nat.le_refl _) nothing) (fun _ _ => id)
              have B5 : Hid (Below wg.heap.size wg w5) := (hR.out.2.alloc hgr _).trans (hb5.mono (by simp; omega))
              have g5 : wg.heap.size ≤ w5.heap.size := B5.out.size
              clear hb5
              generalize hrv : ren cl.length (ordL cl vl) vl[k] = rv
              have HRV := hide hrv
              clear hrv
              go_wp2_with (at_builtin; go_must (refine wpList_append_lies _ rfl _ _ 23 rfl wg.heap.size 25 j0 _ 3 32 Tryd.underlying23 hj0 hy0 hy1 hy2 rfl (by decide) (.slice xa k xc) k _ rfl (hr5.alloc _) ⟨w5.heap.size, 0, none⟩ 1 1 (encV rv) rfl rfl (newV _ _ _) (encV_one _) (by decide) (by unfold maxLen; omega) (by omega) (by simp; omega) _ rfl ?_); intro g cp w6 hr6 hg6 hat6 hlt6)
              have HE := hide (vrow_step hlt hr6 HRV.out B5.out hg6 hr5)
              clear hr6 hg6 hat6 hr5
              go_roundw
              case rel => exact ⟨k + 1, some ⟨g, 0, none⟩, cp, by omega, by go_num, rfl, HE⟩
              case measure => simp [intOf]; omega
            · obtain rfl : k = vl.length := by omega
              have hrow := hR.out.1
              rw [List.take_length] at hrow
              have HM : Hid (Sl encV 3 wr (.slice xa vl.length xc) (canonV cl vl)) := sl_of_owns encV_length (by rw [canonV_length]; exact hrow)
              have HB := hide hR.out.2
              clear hrow hR
              obtain ⟨wh, hwh⟩ : ∃ wh, wh = wr := ⟨_, rfl⟩
              rw [← hwh] at HM HB ⊢
              clear hwh
              have hob2 := (HB.out.cell (p := ⟨w.heap.size + 2, 0, none⟩) b2).trans hob
              have b3 : w.heap.size + 2 < wh.heap.size := Nat.lt_of_lt_of_le b2 HB.out.size
              go_wp2_with fail
              go_loopw [17, 85] (fun v17 v85 wr => ∃ (k : Nat) (ya : Option Addr) (yc : Nat), k ≤ (ordL cl vl).length ∧ v85 = .int .i64 k ∧ v17 = .slice ya k yc ∧ Hid (wr.ownsRow wh.heap.size 43 6 (.slice ya k yc) k ((((ordL cl vl).take k).map (renC cl (ordL cl vl))).flatMap encC) ∧ Below wh.heap.size wh wr)) (fun _ i _ => (ordL cl vl).length - (intOf i).toNat)
              case atStart => exact ⟨0, none, 0, Nat.zero_le _, rfl, rfl, World.ownsRow_nil _ _ _ _, Below.refl _ _⟩
              case round =>
                obtain ⟨k, ya, yc, hk, rfl, rfl, hR⟩ := hrel
                by_cases hlt : k < (ordL cl vl).length
                · obtain ⟨g, rfl, _, hg, y⟩ := HI.out.there hlt
                  have hod : (ordL cl vl)[k] < cl.length := (ordL_done cl vl).1.2 _ (List.getElem_mem hlt)
                  have hhas := ordL_has (List.getElem_mem hlt)
                  generalize hii : (ordL cl vl)[k] = ii at y hod hhas
                  have HII := hide hii
                  clear hii
                  obtain ⟨b1, off1, cap1, he1, hb1, d0, d1, d2, d3, d4, d5⟩ := cells_of_sl HX.out.1 hod
                  obtain ⟨rfl, rfl⟩ : ha = some ⟨b1, off1, none⟩ ∧ hcp = cap1 := by simpa using he1
                  have hgw : Hid (Below wg.heap.size wg wr) := HB.out.trans (hR.out.2.mono HB.out.size)
                  have hold : Hid (Below w.heap.size w wr) := HI.out.old.trans (hgw.out.mono (by omega))
                  rw [← hold.out.cell (p := ⟨b1, _, none⟩) hb1] at d0 d1 d2 d3 d4 d5
                  have hbw : b1 < wr.heap.size := Nat.lt_of_lt_of_le hb1 hold.out.size
                  have y2 := (hgw.out.cell (p := ⟨g, k, none⟩) hg).trans y
                  have hgr : g < wr.heap.size := Nat.lt_of_lt_of_le hg hgw.out.size
                  have hhr : wh.heap.size ≤ wr.heap.size := hR.out.2.size
                  have hrt := HX.out.2.2.1 _ (cellAt_mem hod)
                  have hrc : renC cl (ordL cl vl) ii = ⟨ren cl.length (ordL cl vl) (cellAt cl ii).l, ren cl.length (ordL cl vl) (cellAt cl ii).r⟩ := rfl
                  have CP : Hid (∀ v, RightV cl.length v → (inR cl.length v = true → v.n.toNat ∈ ordL cl vl) → ∀ w', Below wr.heap.size wr.drew w' → Calls Tryd.prog 32 #[vv v, .pointer (some ⟨w.heap.size + 1, 0, none⟩)] w' fun e w'' => e = .returned (vv (ren cl.length (ordL cl vl) v)) ∧ Below wr.heap.size wr.drew w'') := fun v hv ho w' hb' =>
                    (rput_any w cl.length (ordL cl vl) w' v (((HI.out.pr.below hgw.out).below ((Below.refl _ _).drew)).below hb') hv hmh ho).mono fun e w'' h => ⟨h.1, hb'.trans (h.2.mono hb'.size)⟩
                  have CL := hide (CP.out _ hrt.1 hhas.1 wr.drew (Below.refl _ _))
                  have CR := hide (fun w' => CP.out _ hrt.2 hhas.2 w')
                  have HCC := hide hrc
                  clear hrc he1 y hhas hrt CP
                  generalize cellAt cl ii = c at *
                  generalize ren cl.length (ordL cl vl) c.l = rl at *
                  generalize ren cl.length (ordL cl vl) c.r = rr at *
                  go_wp2_with fail
                  go_region_law (first
                    | (refine step_callv rfl 32 Tryd.f32 (.tmp 90) #[.tmp 95] #[25] rfl #[.pointer (some ⟨w.heap.size + 1, 0, none⟩)] (by simp [Act.eval]) Tryd.func32 (by kernel_rfl) (by kernel_rfl) #[vv c.l, .pointer (some ⟨w.heap.size + 1, 0, none⟩)] (by simp [Act.eval]) _ (by exact CL.out) ?_; rintro e w5 ⟨rfl, hb5⟩; have H5 := hide hb5; have z3 := (hb5.cell (p := ⟨b1, off1 + ii * 6 + 3, none⟩) hbw).trans d3; have z4 := (hb5.cell (p := ⟨b1, off1 + ii * 6 + 4, none⟩) hbw).trans d4; have z5 := (hb5.cell (p := ⟨b1, off1 + ii * 6 + 5, none⟩) hbw).trans d5; have hbw5 : b1 < w5.heap.size := Nat.lt_of_lt_of_le hbw hb5.size; clear hb5; refine ⟨_, rfl, ?_⟩)
                    | (refine step_callv rfl 32 Tryd.f32 (.tmp 97) #[.tmp 102] #[25] rfl #[.pointer (some ⟨w.heap.size + 1, 0, none⟩)] (by simp [Act.eval]) Tryd.func32 (by kernel_rfl) (by kernel_rfl) #[vv c.r, .pointer (some ⟨w.heap.size + 1, 0, none⟩)] (by simp [Act.eval]) _ (by exact CR.out w5 H5.out) ?_; rintro e w6 ⟨rfl, hb6⟩; have H6 := hide hb6; have hr6 := owns_fr hR.out.1 (Fr.of_below ((Below.refl _ _).drew.trans hb6) (Nat.le_refl _) nothing) (fun _ _ => id); have hs6 : wh.heap.size ≤ w6.heap.size := Nat.le_trans hhr hb6.size; clear hb6; refine ⟨_, rfl, ?_⟩)
                    | (refine step_append_lies _ rfl (.tmp 89) (.tmp 105) 22 rfl wh.heap.size 43 c0 _ 6 64 Tryd.underlying22 hc0 hx0 hx1 hx2 rfl (by decide) (.slice ya k yc) k _ (by simp [Act.eval]) (by exact hr6.alloc _) ⟨w6.heap.size, 0, none⟩ 1 1 (encC ⟨rl, rr⟩) (by simp [Act.eval]) rfl (by exact newC _ _ _) (encC_one _) (by decide) (by unfold maxLen; omega) (by omega) (by simp; omega) _ rfl ?_; intro g7 cp w7 hr7 hg7 hat7 hlt7))
                  all_goals
                    have HE := hide (crow_step hlt hr7 ((congrArg _ HII.out).trans HCC.out) ((hR.out.2.trans ((Below.refl _ _).drew.mono hhr)).trans (H6.out.mono hhr)) hg7 hr6)
                    clear hr7 hg7 hat7 hr6
                    go_wp2
                    go_roundw
                    case rel => exact ⟨k + 1, some ⟨g7, 0, none⟩, cp, by omega, by go_num, rfl, HE⟩
                    case measure => simp [intOf]; omega
                · obtain rfl : k = (ordL cl vl).length := by omega
                  have hrow := hR.out.1
                  rw [List.take_length] at hrow
                  have HK : Hid (Sl encC 6 wr (.slice ya (ordL cl vl).length yc) (canonC cl vl)) := sl_of_owns encC_length (by rw [canonC_length]; exact hrow)
                  have HM2 : Hid (Sl encV 3 wr (.slice xa vl.length xc) (canonV cl vl)) := HM.out.below hR.out.2 (Nat.le_refl _)
                  have HB2 : Hid (Below w.heap.size w wr) := (HI.out.old.trans (HB.out.mono (by omega))).trans (hR.out.2.mono (by omega))
                  clear hrow hR
                  go_wp2
                  all_goals go_ret2
                  all_goals exact ⟨_, _, rfl, HM2.out, HK.out, HB2.out⟩
end Go.Proofs.YtcemfgknnpjlhaaDoor
