/- What is wrong with values; whether all are right; whether lists are the same. -/
import Derived.Test.YtcemfgknnpjlhaaDoorMid
import Derived.Deep.Light
namespace Go.Proofs.YtcemfgknnpjlhaaDoor
open Go.RowKit Go.Ws

/-- What is wrong with a value, the document's answer: 0 OK, 1 ErrKind, 2 ErrForm, 3 ErrRange, 4 ErrMuch, 6 ErrNone. -/
def wrongR (v : Val) (c : Int) : Int :=
  if v.k = 0 then (if v.n < -1073741824 ∨ 1073741824 < v.n then 3 else if v.t.toList.isEmpty then 0 else 2)
  else if v.k = 1 then (if 60 < v.t.size then 4 else if v.n ≠ 0 then 2 else 0)
  else if v.k = 2 then (if v.n < 0 ∨ c ≤ v.n then 6 else if v.t.toList.isEmpty then 0 else 2)
  else 1

theorem ret_int {k : IntKind} {a b : Int} (h : a = b) : Ending.returned (.int k a) = .returned (.int k b) := by rw [h]
set_option maxHeartbeats 400000 in
theorem wrongRef_any (v : Val) (c : Int) (w : World) (hs : v.t.size ≤ maxLen) :
    Calls Tryd.prog 11 #[vv v, .int .i64 c] w fun e w' => e = .returned (.int .i64 (wrongR v c)) ∧ Below w.heap.size w w' := by
  unfold maxLen at hs
  go_enter Tryd.func11, Tryd.ntmps11
  go_wp2
  all_goals go_ret
  all_goals
    refine ⟨ret_int ?_, (Below.refl _ _).alloc (Nat.le_refl _) _⟩
    go_light
    unfold wrongR
    simp only [beq_iff_eq, beq_eq_false_iff_ne, bne_iff_ne, Bool.not_eq_true', Bool.not_eq_false', ne_eq, bne_eq_false_iff_eq] at *
    repeat (first | rw [if_pos (by first | assumption | omega)] | rw [if_neg (by first | assumption | omega)])
    try simp [*]

def WfV (v : Val) : Prop := (-9223372036854775808 ≤ v.k ∧ v.k ≤ 9223372036854775807) ∧ (-9223372036854775808 ≤ v.n ∧ v.n ≤ 9223372036854775807) ∧ v.t.size ≤ maxLen
def WfC (c : Cel) : Prop := WfV c.l ∧ WfV c.r
def okV (n : Nat) (v : Val) : Bool := wrongR v n == 0
def okC (n : Nat) (c : Cel) : Bool := okV n c.l && okV n c.r
def rightB (h : List Cel) (l : List Val) : Bool := l.all (okV h.length) && h.all (okC h.length)

theorem all_take_succ {α : Type} (p : α → Bool) (l : List α) (k : Nat) (hk : k < l.length) : (l.take (k + 1)).all p = ((l.take k).all p && p l[k]) := by
  rw [List.take_succ_eq_append_getElem hk, List.all_append, List.all_cons, List.all_nil, Bool.and_true]
theorem all_false_of {α : Type} (p : α → Bool) (l : List α) (k : Nat) (hk : k < l.length) (h : p l[k] = false) : l.all p = false := by
  rw [List.all_eq_false]
  exact ⟨l[k], List.getElem_mem hk, by simp [h]⟩

theorem cels_of_sl {w : World} {v : Value} {l : List Cel} (hs : Sl encC 6 w v l) {i : Nat} (hi : i < l.length) :
    ∃ b off cap, v = .slice (some ⟨b, off, none⟩) l.length cap ∧ b < w.heap.size ∧ w.cell? ⟨b, off + i * 6, none⟩ = some (.int .i64 l[i].l.k) ∧ w.cell? ⟨b, off + i * 6 + 1, none⟩ = some (.int .i64 l[i].l.n) ∧
      w.cell? ⟨b, off + i * 6 + 2, none⟩ = some (.string l[i].l.t) ∧ w.cell? ⟨b, off + i * 6 + 3, none⟩ = some (.int .i64 l[i].r.k) ∧ w.cell? ⟨b, off + i * 6 + 4, none⟩ = some (.int .i64 l[i].r.n) ∧
      w.cell? ⟨b, off + i * 6 + 5, none⟩ = some (.string l[i].r.t) := by
  obtain ⟨ao, cap, rfl, _, hc⟩ := hs
  obtain ⟨b, off, rfl, hb, hc⟩ := hc i _ (List.getElem?_eq_getElem hi)
  exact ⟨b, off, cap, rfl, hb, hc 0 _ rfl, hc 1 _ rfl, hc 2 _ rfl, hc 3 _ rfl, hc 4 _ rfl, hc 5 _ rfl⟩
theorem vals_of_sl {w : World} {v : Value} {l : List Val} (hs : Sl encV 3 w v l) {i : Nat} (hi : i < l.length) :
    ∃ b off cap, v = .slice (some ⟨b, off, none⟩) l.length cap ∧ b < w.heap.size ∧ w.cell? ⟨b, off + i * 3, none⟩ = some (.int .i64 l[i].k) ∧ w.cell? ⟨b, off + i * 3 + 1, none⟩ = some (.int .i64 l[i].n) ∧
      w.cell? ⟨b, off + i * 3 + 2, none⟩ = some (.string l[i].t) := by
  obtain ⟨ao, cap, rfl, _, hc⟩ := hs
  obtain ⟨b, off, rfl, hb, hc⟩ := hc i _ (List.getElem?_eq_getElem hi)
  exact ⟨b, off, cap, rfl, hb, hc 0 _ rfl, hc 1 _ rfl, hc 2 _ rfl⟩

set_option maxHeartbeats 400000 in
theorem right_any (cl : List Cel) (vl : List Val) (hv lv : Value) (w : World) (hh : Sl encC 6 w hv cl) (hl : Sl encV 3 w lv vl) (wc : ∀ c ∈ cl, WfC c) (wl : ∀ v ∈ vl, WfV v) :
    Calls Tryd.prog 14 #[hv, lv] w fun e w' => e = .returned (.bool (rightB cl vl)) ∧ Below w.heap.size w w' := by
  obtain ⟨la, lc, rfl, hll, q1⟩ := id hl
  obtain ⟨ha, hcp, rfl, hhl, q2⟩ := id hh
  clear q1 q2
  have HH := hide hh
  have HL := hide hl
  have WC := hide wc
  have WL := hide wl
  clear hh hl wc wl
  unfold maxLen at hll hhl
  go_enter Tryd.func14, Tryd.ntmps14
  go_wp2_with fail
  go_loopw [11] (fun i wr => ∃ k : Nat, k ≤ vl.length ∧ i = .int .i64 k ∧ Hid ((vl.take k).all (okV cl.length) = true) ∧ Below w.heap.size w wr) (fun i _ => vl.length - (intOf i).toNat)
  case atStart => exact ⟨0, Nat.zero_le _, rfl, rfl, Below.refl _ _⟩
  case round =>
    obtain ⟨k, hk, rfl, hal, hbel⟩ := hrel
    have HB := hide hbel
    have hsz := hbel.size
    clear hbel
    by_cases hlt : k < vl.length
    · obtain ⟨b, off, cap, he, hb, x0, x1, x2⟩ := vals_of_sl HL.out hlt
      obtain ⟨rfl, rfl⟩ : la = some ⟨b, off, none⟩ ∧ lc = cap := by simpa using he
      rw [← HB.out.cell (p := ⟨b, _, none⟩) hb] at x0 x1 x2
      clear he
      have hw := (WL.out _ (List.getElem_mem hlt)).2.2
      cases hq : okV cl.length vl[k]
      · have hq' : (wrongR vl[k] cl.length != 0) = true := by simpa [okV] using hq
        have HQ := hide hq
        clear hq
        go_wp2_with (go_at_call 11; refine (wrongRef_any vl[k] _ _ hw).mono ?_; rintro e w2 ⟨rfl, hb2⟩)
        go_ret
        refine ⟨?_, ?_⟩
        · simp [rightB, all_false_of _ _ _ hlt HQ.out]
        · exact (HB.out.alloc hsz _).trans (hb2.mono (by simp; omega))
      · have hq' : (wrongR vl[k] cl.length != 0) = false := by simpa [okV] using hq
        have HQ := hide hq
        clear hq
        go_wp2_with (go_at_call 11; refine (wrongRef_any vl[k] _ _ hw).mono ?_; rintro e w2 ⟨rfl, hb2⟩)
        go_roundw
        case rel => exact ⟨k + 1, by omega, by go_num, (by show _ = true; rw [all_take_succ _ _ _ hlt, hal.out, HQ.out]; rfl), (HB.out.alloc hsz _).trans (hb2.mono (by simp; omega))⟩
        case measure => simp [intOf]; omega
    · obtain rfl : k = vl.length := by omega
      have hal' : vl.all (okV cl.length) = true := by have := hal.out; rwa [List.take_length] at this
      have HA := hide hal'
      clear hal hal'
      go_wp2_with fail
      go_loopw [23] (fun i wq => ∃ k : Nat, k ≤ cl.length ∧ i = .int .i64 k ∧ Hid ((cl.take k).all (okC cl.length) = true) ∧ Below w.heap.size w wq) (fun i _ => cl.length - (intOf i).toNat)
      case atStart => exact ⟨0, Nat.zero_le _, rfl, rfl, HB.out⟩
      case round =>
        clear HB hsz
        obtain ⟨k, hk, rfl, hal, hbel⟩ := hrel
        have HB := hide hbel
        have hsz := hbel.size
        clear hbel
        by_cases hlt : k < cl.length
        · obtain ⟨b, off, cap, he, hb, x0, x1, x2, x3, x4, x5⟩ := cels_of_sl HH.out hlt
          obtain ⟨rfl, rfl⟩ : ha = some ⟨b, off, none⟩ ∧ hcp = cap := by simpa using he
          rw [← HB.out.cell (p := ⟨b, _, none⟩) hb] at x0 x1 x2 x3 x4 x5
          clear he
          have hw := (WC.out _ (List.getElem_mem hlt)).1.2.2
          have hw2 := (WC.out _ (List.getElem_mem hlt)).2.2.2
          have cellf : ∀ w2 : World, Below (wr.heap.size + 1) (wr.alloc (.cells #[.int .i64 cl[k].l.k, .int .i64 cl[k].l.n, .string cl[k].l.t, .int .i64 cl[k].r.k, .int .i64 cl[k].r.n, .string cl[k].r.t] 43)) w2 → w2.cell? ⟨wr.heap.size, 3, none⟩ = some (.int .i64 cl[k].r.k) ∧ w2.cell? ⟨wr.heap.size, 4, none⟩ = some (.int .i64 cl[k].r.n) ∧ w2.cell? ⟨wr.heap.size, 5, none⟩ = some (.string cl[k].r.t) ∧ wr.heap.size < w2.heap.size := by
            intro w2 hb2
            refine ⟨?_, ?_, ?_, by have := hb2.size; simp at this; omega⟩
            · rw [hb2.cell (p := ⟨wr.heap.size, _, none⟩) (by simp), World.cell?_alloc_new]; rfl
            · rw [hb2.cell (p := ⟨wr.heap.size, _, none⟩) (by simp), World.cell?_alloc_new]; rfl
            · rw [hb2.cell (p := ⟨wr.heap.size, _, none⟩) (by simp), World.cell?_alloc_new]; rfl
          have CF := hide cellf
          clear cellf
          cases hq : okV cl.length cl[k].l
          · have hq' : (wrongR cl[k].l cl.length != 0) = true := by simpa [okV] using hq
            have HQ : Hid (okC cl.length cl[k] = false) := by unfold okC; rw [hq]; rfl
            clear hq
            go_wp2_with (go_at_call 11; refine (wrongRef_any cl[k].l _ _ hw).mono ?_; rintro e w2 ⟨rfl, hb2⟩)
            go_ret
            refine ⟨?_, ?_⟩
            · simp [rightB, all_false_of _ _ _ hlt HQ.out]
            · exact (HB.out.alloc hsz _).trans (hb2.mono (by simp; omega))
          · have hq' : (wrongR cl[k].l cl.length != 0) = false := by simpa [okV] using hq
            cases hr : okV cl.length cl[k].r
            · have hr' : (wrongR cl[k].r cl.length != 0) = true := by simpa [okV] using hr
              have HQ : Hid (okC cl.length cl[k] = false) := by unfold okC; rw [hq, hr]; rfl
              clear hq hr
              go_wp2_with fail
              refine (wrongRef_any cl[k].l _ _ hw).mono ?_
              rintro e w2 ⟨rfl, hb2⟩
              obtain ⟨y3, y4, y5, y6⟩ := CF.out w2 (by simpa using hb2)
              have H2 := hide hb2
              clear hb2
              go_wp2_with fail
              refine (wrongRef_any cl[k].r _ _ hw2).mono ?_
              rintro e w3 ⟨rfl, hb3⟩
              have H3 := hide hb3
              clear hb3
              go_wp2
              go_ret
              refine ⟨?_, ?_⟩
              · simp [rightB, all_false_of _ _ _ hlt HQ.out]
              · exact ((HB.out.alloc hsz _).trans (H2.out.mono (by simp; omega))).trans (H3.out.mono (by omega))
            · have hr' : (wrongR cl[k].r cl.length != 0) = false := by simpa [okV] using hr
              have HQ : Hid (okC cl.length cl[k] = true) := by unfold okC; rw [hq, hr]; rfl
              clear hq hr
              go_wp2_with fail
              refine (wrongRef_any cl[k].l _ _ hw).mono ?_
              rintro e w2 ⟨rfl, hb2⟩
              obtain ⟨y3, y4, y5, y6⟩ := CF.out w2 (by simpa using hb2)
              have H2 := hide hb2
              clear hb2
              go_wp2_with fail
              refine (wrongRef_any cl[k].r _ _ hw2).mono ?_
              rintro e w3 ⟨rfl, hb3⟩
              have H3 := hide hb3
              clear hb3
              go_wp2
              go_roundw
              case rel => exact ⟨k + 1, by omega, by go_num, (by show _ = true; rw [all_take_succ _ _ _ hlt, hal.out, HQ.out]; rfl), ((HB.out.alloc hsz _).trans (H2.out.mono (by simp; omega))).trans (H3.out.mono (by omega))⟩
              case measure => simp [intOf]; omega
        · obtain rfl : k = cl.length := by omega
          have hal' : cl.all (okC cl.length) = true := by have := hal.out; rwa [List.take_length] at this
          have HC := hide hal'
          clear hal hal'
          go_wp2
          go_ret
          exact ⟨by simp [rightB, HA.out, HC.out], HB.out⟩
end Go.Proofs.YtcemfgknnpjlhaaDoor
