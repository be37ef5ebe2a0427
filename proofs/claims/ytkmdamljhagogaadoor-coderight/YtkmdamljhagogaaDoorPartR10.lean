/- ExprF; ExprQ; Expr; Stmt; ClosP. -/
import Derived.Test.YtkmdamljhagogaaDoorPartR5
import Derived.Test.YtkmdamljhagogaaDoorPartR9
import Derived.Test.YtkmdamljhagogaaDoorPartR6
import Derived.Test.YtkmdamljhagogaaDoorPartR7
import Derived.Test.YtkmdamljhagogaaDoorPartR8
section
/- An expression of others. -/
namespace Go.Proofs.YtkmdamljhagogaaDoor
open Go.RowKit

/-- The expression under way at block bx. -/
structure X4 (bx : Nat) (s : Scan) (a : Value) (w : World) : Prop where
  c0 : w.cell? ⟨bx, 0, none⟩ = some (.int .i64 s.k)
  c1 : w.cell? ⟨bx, 1, none⟩ = some (.int .i64 s.n)
  c2 : w.cell? ⟨bx, 2, none⟩ = some (.string (bs s.t))
  c3 : w.cell? ⟨bx, 3, none⟩ = some a
  f : ∀ j, w.frozen? ⟨bx, j, none⟩ = false
  lt : bx < w.heap.size
theorem X4.put {bx : Nat} {s : Scan} {a : Value} {w : World} (h : X4 bx s a w) (s' : Scan) (a' : Value) : X4 bx s' a' (putAll w bx 0 [.int .i64 s'.k, .int .i64 s'.n, .string (bs s'.t), a']) := by
  have hlt := h.lt
  refine ⟨?_, ?_, ?_, ?_, fun j => (putAll_frozen).trans (h.f j), by simpa [putAll, World.setCell] using hlt⟩
  · simp [putAll, go_sem, h.c0]
  · simp [putAll, go_sem, h.c1]
  · simp [putAll, go_sem, h.c2]
  · simp [putAll, go_sem, h.c3]
theorem X4.fr {bx : Nat} {s : Scan} {a : Value} {w w' : World} {S : Nat → Prop} (h : X4 bx s a w) (hf : Fr S w w') (hs : ¬ S bx) : X4 bx s a w' :=
  ⟨(hf.cell (p := ⟨bx, 0, none⟩) h.lt hs).trans h.c0, (hf.cell (p := ⟨bx, 1, none⟩) h.lt hs).trans h.c1, (hf.cell (p := ⟨bx, 2, none⟩) h.lt hs).trans h.c2, (hf.cell (p := ⟨bx, 3, none⟩) h.lt hs).trans h.c3, fun j => (hf.frozen (p := ⟨bx, j, none⟩) h.lt hs).trans (h.f j), Nat.lt_of_lt_of_le h.lt hf.size⟩
theorem wants2_get : ∀ k, k < 6 → (#[Value.int .i64 2, .int .i64 1, .int .i64 1, .int .i64 1, .int .i64 0, .int .i64 1] : Array Value)[k]? = some (.int .i64 (wants2.getD k 0))
  | 0, _ => rfl
  | 1, _ => rfl
  | 2, _ => rfl
  | 3, _ => rfl
  | 4, _ => rfl
  | 5, _ => rfl
  | n + 6, h => by omega
/-- The parts, gathered. -/
theorem until_parts (w0 : World) (rb : Nat) (d : Int) (one : Reader Ex) (N : Nat) (hN : 1502 ≤ N) (hless : Less one) (hsmall : Small one) (hd0 : 0 ≤ d) (hd : d ≤ 10)
    (hone : ∀ l w, Pw w0 rb l 0 w → Calls Tryd.prog 51 #[.pointer (some ⟨rb, 0, none⟩), .int .i64 (d + 1)] w (XPost ev ExOk rb w (one l 0)))
    (bp bd bx : Nat) (s : Scan) (l : Bs) (z : Int) (w1 : World) (hp : Pw w0 rb l z w1) (hx : X4 bx s (.slice none 0 0) w1) (hcp : w1.cell? ⟨bp, 0, none⟩ = some (.pointer (some ⟨rb, 0, none⟩))) (hcd : w1.cell? ⟨bd, 0, none⟩ = some (.int .i64 d))
    (hne : bp ≠ rb ∧ bp ≠ bx ∧ bd ≠ rb ∧ bd ≠ bx ∧ bx ≠ rb) (hw0 : w0.heap.size ≤ bx) :
    Calls Tryd.prog 21 #[.pointer (some ⟨rb, 0, none⟩), .func (.func 58) #[] #[.pointer (some ⟨bx, 0, none⟩), .pointer (some ⟨bp, 0, none⟩), .pointer (some ⟨bd, 0, none⟩)]] w1
      fun e w' => e = .returned (.tuple #[]) ∧ JL w0 rb 93 4 encE ExOk w1 bx 3 (until_ one N l z).v (until_ one N l z).l (until_ one N l z).z w' := by
  have hJ0 : JL w0 rb 93 4 encE ExOk w1 bx 3 [] l z w1 :=
    { pw := hp, fr := Fr.refl _ _, fz := fun _ => rfl, old := fun _ _ => rfl, le := fun _ => by have := hp.len; simpa using this, row := ⟨nilS, hx.c3, Row.nil _ (Nat.le_refl _)⟩ }
  have hw01 := hp.bel.size
  have hrb1 := hp.pr.lt
  have hbx1 := hx.lt
  exact until_E rb _ _ _ one (JL w0 rb 93 4 encE ExOk w1 bx 3) hless hsmall (fun acc l z w h => ⟨h.pw.pr, h.pw.len⟩)
    (fun acc l l' z z' w w' h hp hl hz hf => h.move ex_stays hbx1 hrb1 hne.2.2.2.2 hp hl hz hf)
    (fun acc l w h => clE w0 rb w1 bp bd bx d one acc l w hone hless hsmall hd0 (by omega) hcp hcd hbx1 hrb1 hne ⟨hw0, hw01⟩ (hx.f 3) h)
    N [] l z w1 hJ0 (by omega) (fun _ => by have := hp.len; omega)
/-- What came of it. -/
theorem formed_fin {w0 : World} {rb bx : Nat} {d : Int} {w wU w9 w10 : World} {s : Scan} {xs : List Ex} {l l2 : Bs} {z z2 : Int} {sl : Slc} (hrb : rb < w.heap.size) (hbx : w.heap.size + 1 + 1 < bx) (hFU : Fr (at_ rb) (w3of w rb d) wU) (hJ : JL w0 rb 93 4 encE ExOk wU bx 3 xs l z w9)
    (hc : w9.cell? ⟨bx, 3, none⟩ = some sl.v) (hF : Fr (at_ rb) w9 w10) (hP : Pr rb l2 z2 w10) (u0 u1 u2 u3 : Value) :
    XPost ev ExOk rb w ⟨.mk s.k s.n s.t xs, l2, z2⟩ (.returned (ev ⟨s.k, s.n, s.t, sl⟩)) ((((w10.setCell ⟨w.heap.size + 1 + 1, 0, none⟩ u0).setCell ⟨w.heap.size + 1 + 1, 1, none⟩ u1).setCell ⟨w.heap.size + 1 + 1, 2, none⟩ u2).setCell ⟨w.heap.size + 1 + 1, 3, none⟩ u3) := by
  obtain ⟨s', h1, h2⟩ := hJ.row
  have hUz := hFU.size
  simp at hUz
  obtain rfl : s' = sl := by
    rw [h1] at hc
    have e := Option.some.inj hc
    simp only [Value.slice.injEq] at e
    obtain ⟨a, b, c⟩ := s'
    obtain ⟨a', b', c'⟩ := sl
    simp only at e
    obtain ⟨rfl, rfl, rfl⟩ := e
    rfl
  have hf9 : Fr (at_ rb) (w3of w rb d) w10 := (hFU.then hJ.fr (fun j hj e => by
    simp at hj
    rcases e with e | e
    · exact e
    · omega)).trans hF
  have h3 := h2.fr ex_stays hF (fun k e => by have : k = rb := e; show k < _; omega)
  obtain ⟨rs, k1, k2, k3⟩ := h3.done ex_stays encE_len (B := w.heap.size + 1 + 1 + 1) (by omega)
  refine ex_fin (res := ⟨.mk s.k s.n s.t xs, l2, z2⟩) hrb hf9 hP (.mk _ _ _ _ rs xs k1 (fun b hb => by have := k2 b hb; omega) k3.1 (fun i r x a b => ex_stays _ _ nothing _ _ _ _ (k3.2 i r x a b) (Fr.refl nothing _) (fun _ _ => id) (fun k hk => by omega))) _ _ _ _
set_option maxHeartbeats 4000000 in
set_option maxRecDepth 20000 in
theorem expr_formed (w0 : World) (rb : Nat) (l : Bs) (d : Int) (w : World) (h : Pw w0 rb l 0 w) (hd0 : 0 ≤ d) (hd : d ≤ 10) {t : Bs} (hs : skip l = 40 :: t) (one : Reader Ex) (N : Nat) (hN : 1502 ≤ N) (hless : Less one) (hsmall : Small one)
    (hone : ∀ l w, Pw w0 rb l 0 w → Calls Tryd.prog 51 #[.pointer (some ⟨rb, 0, none⟩), .int .i64 (d + 1)] w (XPost ev ExOk rb w (one l 0))) :
    Calls Tryd.prog 51 #[.pointer (some ⟨rb, 0, none⟩), .int .i64 d] w (XPost ev ExOk rb w (formed (until_ one N) t 0)) := by
  have HD := hide (deep_any rb l 0 d _ (h.pr.fr (fr3 w rb d) (S := nothing) id))
  have hrb := h.pr.lt
  have e0 : deepZ d 0 = 0 := by simp [deepZ]; omega
  rw [e0] at HD
  have hl := h.len
  have htl : t.length + 1 ≤ l.length := by have := skip_len l; rw [hs] at this; simpa using this
  have HH := hide h
  have HS := hide hs
  have HONE := hide hone
  have hsz : (bs (40 :: t)).size = t.length + 1 := by rw [bs_size]; rfl
  obtain ⟨v, l1, z1, HWD⟩ : ∃ v l1 z1, Hid (word t 0 = ⟨v, l1, z1⟩) := ⟨_, _, _, rfl⟩
  clear h e0 hs hone
  go_enter Tryd.func51, Tryd.ntmps51
  go_wp2_with (first
    | (go_at_call 50; refine HD.out.mono ?_; rintro e w2 ⟨rfl, hp, hf⟩; have hpk := peek_any rb l 0 w2 hp hl; rw [HS.out, show ((peekC (40 :: t)).toNat : Int) = 40 from rfl] at hpk; have HPK := hide hpk; obtain ⟨b0, b1, -, -, -, -, -, -, -, -, hlt⟩ := boxes hrb hf; have HF := hide hf; clear hp hf hpk)
    | (go_at_call 18; refine HPK.out.mono ?_; rintro e w4 ⟨rfl, hp, hf⟩; have hf4 := HF.out.trans hf; clear b0 b1 hlt; obtain ⟨b0, b1, -, -, -, -, -, -, -, -, hlt⟩ := boxes hrb hf4; have s0 := hp.s; have g0 := hp.f0; have hl4 := hp.lt; have HP4 := hide hp; have HF4 := hide hf4; clear hp hf hf4))
  have hwd : ∀ w', Pr rb t 0 w' → Calls Tryd.prog 36 #[.pointer (some ⟨rb, 0, none⟩)] w' fun e w'' => e = .returned (.string (bs v)) ∧ Pr rb l1 z1 w'' ∧ Fr (at_ rb) w' w'' := fun w' hp => by
    have := word_any rb t 0 w' hp (by omega)
    rw [HWD.out] at this
    exact this
  have HWW := hide hwd
  clear hwd
  have HP6 := hide (HP4.out.put' (bs_tail 40 t (Nat.le_refl _))).drew
  have FF := hide (HF4.out.setCell (p := ⟨rb, 0, none⟩) (.inl rfl) (.string ((bs (40 :: t)).extract 1 (t.length + 1)))).drew
  go_region
  all_goals go_wp2_with (first
    | (go_at_call 36; refine (HWW.out _ HP6.out).mono ?_; rintro e w5 ⟨rfl, hp, hf⟩; have hf5 := FF.out.trans hf; clear b0 b1 hlt; obtain ⟨b0, b1, -, -, -, -, -, -, -, -, hlt⟩ := boxes hrb hf5; have HP5 := hide hp; have HF5 := hide hf5; clear hp hf hf5))
  have hw5 : w.heap.size + 1 + 1 < w5.heap.size := hlt
  have hX0 : X4 w5.heap.size (scan1 v 0) (.slice none 0 0) ((w5.alloc (.cells #[.int .i64 11, .int .i64 0, .string (bs v), .slice none 0 0] 93)).alloc (.cells (opsV ops1) 9)) := by
    have hn := made_cells (Fr.refl nothing (w5.alloc (.cells #[.int .i64 11, .int .i64 0, .string (bs v), .slice none 0 0] 93))) id
    exact X4.fr (S := nothing) ⟨hn.1 0, hn.1 1, hn.1 2, hn.1 3, hn.2.1, hn.2.2⟩ ((Fr.refl nothing _).alloc _) id
  have hO1 : ∀ k (hk : k < ops1.length), ((w5.alloc (.cells #[.int .i64 11, .int .i64 0, .string (bs v), .slice none 0 0] 93)).alloc (.cells (opsV ops1) 9)).cell? ⟨w5.heap.size + 1, k, none⟩ = some (.string (bs ops1[k])) := fun k hk => by
    rw [show w5.heap.size + 1 = (w5.alloc (.cells #[.int .i64 11, .int .i64 0, .string (bs v), .slice none 0 0] 93)).heap.size by simp, World.cell?_alloc_new]
    exact opsV_get ops1 k hk
  have hFL : Fr (at_ rb) (w3of w rb d) ((w5.alloc (.cells #[.int .i64 11, .int .i64 0, .string (bs v), .slice none 0 0] 93)).alloc (.cells (opsV ops1) 9)) := (HF5.out.alloc _).alloc _
  have hPL : Pr rb l1 z1 ((w5.alloc (.cells #[.int .i64 11, .int .i64 0, .string (bs v), .slice none 0 0] 93)).alloc (.cells (opsV ops1) 9)) := HP5.out.fr (((Fr.refl nothing w5).alloc _).alloc _) id
  have hsL : w5.heap.size + 1 < ((w5.alloc (.cells #[.int .i64 11, .int .i64 0, .string (bs v), .slice none 0 0] 93)).alloc (.cells (opsV ops1) 9)).heap.size := by simp
  have hb5 : rb < w5.heap.size := HP5.out.lt
  have e1 : (opsV ops1) = #[.string ⟨#[43]⟩, .string ⟨#[45]⟩, .string ⟨#[42]⟩, .string ⟨#[60]⟩, .string ⟨#[61]⟩] := rfl
  rw [e1] at hX0 hO1 hFL hPL hsL
  clear e1
  generalize hwL : ((w5.alloc (.cells #[.int .i64 11, .int .i64 0, .string (bs v), .slice none 0 0] 93)).alloc (.cells #[.string ⟨#[43]⟩, .string ⟨#[45]⟩, .string ⟨#[42]⟩, .string ⟨#[60]⟩, .string ⟨#[61]⟩] 9)) = wL at hX0 hO1 hFL hPL hsL ⊢
  clear hwL
  generalize hbx : w5.heap.size = bx at hX0 hO1 hsL hb5 hw5 ⊢
  clear hbx
  have HX0 := hide hX0
  have HO1 := hide hO1
  have HFL := hide hFL
  have HPL := hide hPL
  clear hX0 hO1 hFL hPL b0 b1 hlt HP5 HF5 HP6 FF HWW HP4 HF4 HPK HF s0 g0 hl4
  go_loopw [134, 13, 14, 15] (fun i want _ _ wr => ∃ k : Nat, k ≤ 5 ∧ i = .int .i64 k ∧ want = .int .i64 (scan1 v k).want ∧ Hid (X4 bx (scan1 v k) (.slice none 0 0) wr ∧ Fr (fun j => j = bx) wL wr)) (fun i _ _ _ _ => 5 - (intOf i).toNat)
  case atStart => exact ⟨0, Nat.zero_le _, rfl, rfl, HX0.out, Fr.refl _ _⟩
  case round =>
    obtain ⟨k, hk, rfl, rfl, hR⟩ := hrel
    by_cases hk5 : k < 5
    · have hko : k < ops1.length := hk5
      have o1 := (hR.out.2.cell (p := ⟨bx + 1, k, none⟩) hsL (by show ¬ bx + 1 = bx; omega)).trans (HO1.out k hko)
      have hlr : bx + 1 < wr.heap.size := Nat.lt_of_lt_of_le hsL hR.out.2.size
      by_cases hv : v = ops1[k]
      · have HH1 := hide (scan1_hit hko)
        rw [← hv] at HH1 o1
        have x0 := hR.out.1.c0
        have x1 := hR.out.1.c1
        have x2 := hR.out.1.c2
        have x3 := hR.out.1.c3
        have y0 := hR.out.1.f 0
        have y1 := hR.out.1.f 1
        have y2 := hR.out.1.f 2
        have y3 := hR.out.1.f 3
        clear hv
        go_wp2
        refine ⟨⟨k + 1, by omega, by go_num, by rw [HH1.out], ?_, ?_⟩, by simp [intOf]; omega⟩
        · rw [HH1.out]
          exact hR.out.1.put ⟨4, (k : Int) + 1, [], 2⟩ (.slice none 0 0)
        · exact Fr.putAll (us := [.int .i64 4, .int .i64 ((k : Int) + 1), .string ⟨#[]⟩, .slice none 0 0]) (o := 0) (g := bx) hR.out.2 (.inl rfl)
      · have q1 := bs_ne (fun e : ops1[k] = v => hv e.symm)
        have HM1 := hide (scan1_miss hko hv)
        go_wp2
        go_roundw
        case rel => exact ⟨k + 1, by omega, by go_num, by rw [HM1.out], by rw [HM1.out]; exact hR.out⟩
        case measure => simp [intOf]; omega
    · obtain rfl : k = 5 := by omega
      clear hk hk5
      have hX : X4 bx (scan2 v 0) (.slice none 0 0) (wr.alloc (.cells (opsV ops2) 9)) := X4.fr (S := nothing) hR.out.1 ((Fr.refl nothing _).alloc _) id
      have hO2 : ∀ k (hk : k < ops2.length), (wr.alloc (.cells (opsV ops2) 9)).cell? ⟨wr.heap.size, k, none⟩ = some (.string (bs ops2[k])) := fun k hk => by
        rw [World.cell?_alloc_new]
        exact opsV_get ops2 k hk
      have hFR : Fr (fun j => j = rb ∨ j = bx) wL (wr.alloc (.cells (opsV ops2) 9)) := (hR.out.2.mono (fun _ _ e => .inr e)).alloc _
      have hF2 : Fr (at_ rb) (w3of w rb d) (wr.alloc (.cells (opsV ops2) 9)) := (HFL.out.then hR.out.2 (fun j hj e => by have : j = bx := e; simp at hj; omega)).alloc _
      have hP2 : Pr rb l1 z1 (wr.alloc (.cells (opsV ops2) 9)) := (HPL.out.fr hR.out.2 (by show ¬ rb = bx; omega)).fr ((Fr.refl nothing _).alloc _) id
      have hs2 : wr.heap.size < (wr.alloc (.cells (opsV ops2) 9)).heap.size := by simp
      have hbw : bx < wr.heap.size := hR.out.1.lt
      have hwant : Hid ((scan1 v 5).want = (scan2 v 0).want) := rfl
      have e1 : (opsV ops2) = #[.string ⟨#[99, 101, 108, 108]⟩, .string ⟨#[108, 101, 102, 116]⟩, .string ⟨#[114, 105, 103, 104, 116]⟩, .string ⟨#[97, 115, 107]⟩, .string ⟨#[104, 101, 114, 101]⟩, .string ⟨#[103, 111]⟩] := rfl
      rw [e1] at hX hO2 hFR hF2 hP2 hs2
      clear e1
      go_wp2
      generalize hwM : (wr.alloc (.cells #[.string ⟨#[99, 101, 108, 108]⟩, .string ⟨#[108, 101, 102, 116]⟩, .string ⟨#[114, 105, 103, 104, 116]⟩, .string ⟨#[97, 115, 107]⟩, .string ⟨#[104, 101, 114, 101]⟩, .string ⟨#[103, 111]⟩] 9)) = wM at hX hO2 hFR hF2 hP2 hs2 ⊢
      clear hwM
      generalize hb2 : wr.heap.size = b2 at hO2 hs2 hbw ⊢
      clear hb2
      have HX := hide hX
      have HO2 := hide hO2
      have HF2 := hide hF2
      have HP2 := hide hP2
      clear hX hO2 hFR hF2 hP2 hR HX0 HO1 HFL HPL
      go_loopw [148, 13, 16, 17] (fun i want _ _ ws => ∃ k : Nat, k ≤ 6 ∧ i = .int .i64 k ∧ want = .int .i64 (scan2 v k).want ∧ Hid (X4 bx (scan2 v k) (.slice none 0 0) ws ∧ Fr (fun j => j = bx) wM ws)) (fun i _ _ _ _ => 6 - (intOf i).toNat)
      case atStart => exact ⟨0, Nat.zero_le _, rfl, by rw [hwant.out], HX.out, Fr.refl _ _⟩
      case round =>
        obtain ⟨k, hk, rfl, rfl, hR⟩ := hrel
        by_cases hk5 : k < 6
        · have hko : k < ops2.length := hk5
          have o1 := (hR.out.2.cell (p := ⟨b2, k, none⟩) hs2 (by show ¬ b2 = bx; omega)).trans (HO2.out k hko)
          have hlr : b2 < wr.heap.size := Nat.lt_of_lt_of_le hs2 hR.out.2.size
          by_cases hv : v = ops2[k]
          · have HH1 := hide (scan2_hit hko)
            rw [← hv] at HH1 o1
            have x0 := hR.out.1.c0
            have x1 := hR.out.1.c1
            have x2 := hR.out.1.c2
            have x3 := hR.out.1.c3
            have y0 := hR.out.1.f 0
            have y1 := hR.out.1.f 1
            have y2 := hR.out.1.f 2
            have y3 := hR.out.1.f 3
            clear hv
            have hbr : bx < wr.heap.size := by omega
            have hw2 : (wr.alloc (.cells #[.int .i64 2, .int .i64 1, .int .i64 1, .int .i64 1, .int .i64 0, .int .i64 1] 3)).cell? ⟨wr.heap.size, k, none⟩ = some (.int .i64 (wants2.getD k 0)) := by
              rw [World.cell?_alloc_new]
              exact wants2_get k hk5
            have hg2 : ([Value.int .i64 2, .int .i64 1, .int .i64 1, .int .i64 1, .int .i64 0, .int .i64 1] : List Value)[k]'(by simp; omega) = .int .i64 (wants2.getD k 0) := by
              have := wants2_get k hk5
              rw [List.getElem?_toArray, List.getElem?_eq_getElem (by simp; omega)] at this
              exact Option.some.inj this
            generalize wants2.getD k 0 = wk at hw2 HH1 hg2
            have i0 : (0 : Int) ≤ (k : Int) := by omega
            have i6 : (k : Int) < 6 := by omega
            go_wp2_with fail
            go_region
            all_goals go_wp2
            all_goals refine ⟨⟨k + 1, by omega, by go_num, by first | rw [HH1.out] | (rw [hg2, HH1.out]), ?_, ?_⟩, by simp [intOf]; omega⟩
            all_goals first
              | exact Fr.drew (Fr.alloc (Fr.putAll (us := [.int .i64 (5 + (k : Int)), .int .i64 0, .string ⟨#[]⟩, .slice none 0 0]) (o := 0) (g := bx) hR.out.2 (.inl rfl)) _)
              | (rw [HH1.out]; exact (hR.out.1.put ⟨5 + (k : Int), 0, [], wk⟩ (.slice none 0 0)).fr (S := nothing) ((Fr.refl nothing _).alloc _).drew id)
          · have q1 := bs_ne (fun e : ops2[k] = v => hv e.symm)
            have HM1 := hide (scan2_miss hko hv)
            go_wp2
            go_roundw
            case rel => exact ⟨k + 1, by omega, by go_num, by rw [HM1.out], by rw [HM1.out]; exact hR.out⟩
            case measure => simp [intOf]; omega
        · obtain rfl : k = 6 := by omega
          clear hk hk5
          have hFr : Fr (at_ rb) (w3of w rb d) wr := HF2.out.then hR.out.2 (fun j hj e => by have : j = bx := e; simp at hj; omega)
          have hPr : Pr rb l1 z1 wr := HP2.out.fr hR.out.2 (by show ¬ rb = bx; omega)
          have hXr := hR.out.1
          have hsm : l1.length ≤ t.length := by have := word_small t 0; rw [HWD.out] at this; exact this
          have UN : Hid (∀ wU z2 q, until_ one N l1 z2 = q → Fr (at_ rb) (w3of w rb d) wU → Pr rb l1 z2 wU → X4 bx (scan2 v 6) (.slice none 0 0) wU → Calls Tryd.prog 21 #[.pointer (some ⟨rb, 0, none⟩), .func (.func 58) #[] #[.pointer (some ⟨bx, 0, none⟩), .pointer (some ⟨w.heap.size, 0, none⟩), .pointer (some ⟨w.heap.size + 1, 0, none⟩)]] wU
              fun e w' => e = .returned (.tuple #[]) ∧ JL w0 rb 93 4 encE ExOk wU bx 3 q.v q.l q.z w') := fun wU z2 q hq hf hp hx => by
            subst hq
            obtain ⟨q0, q1, -⟩ := boxes hrb hf
            have hge := HH.out.ge
            exact until_parts w0 rb d one N hN hless hsmall hd0 hd HONE.out w.heap.size (w.heap.size + 1) bx (scan2 v 6) l1 z2 wU (HH.out.of hp (by omega) ((fr3 w rb d).trans hf)) hx q0 q1 ⟨by omega, by omega, by omega, by omega, by omega⟩ (by omega)
          have e6 := scan2_6 v
          have HFr := hide hFr
          have HPr := hide hPr
          have HXr := hide hXr
          obtain ⟨b0, b1, -, -, -, -, -, -, -, -, hlt⟩ := boxes hrb hFr
          have hrbr : rb < wr.heap.size := hPr.lt
          have hRES : Hid (∀ z2 q, headZ v z1 = z2 → until_ one N l1 z2 = q → formed (until_ one N) t 0 = ⟨.mk (scan2 v 6).k (scan2 v 6).n (scan2 v 6).t q.v, q.l, if manyBad v q.v.length then bad q.z 5 else q.z⟩) := fun z2 q hz2 hq => by
            unfold formed
            simp only [HWD.out, hz2, hq]
            rw [e6]
            rfl
          have HNM := hide (fun w => name_any v w (by
            have : v = (word t 0).v := by rw [HWD.out]
            rw [this]
            exact Nat.le_trans (List.takeWhile_sublist _).length_le (Nat.le_trans (skip_len _) (by omega))))
          have hwn : (scan2 v 6).want = wantOf (formOf v).2.2 := by rw [e6]
          rw [hwn]
          clear hFr hPr hXr e6 hwn hR HX HO2 HF2 HP2
          cases hfm : (formOf v).2.2 with
          | some n =>
            have hz2 : headZ v z1 = z1 := by simp [headZ, hfm]
            obtain ⟨q, hq⟩ : ∃ q, until_ one N l1 z1 = q := ⟨_, rfl⟩
            have HQ := hide hq
            have RES := hide (hRES.out z1 q hz2 hq)
            have hmb : manyBad v q.v.length = decide (q.v.length ≠ n) := by simp [manyBad, hfm]
            have hn0 : (0 : Int) ≤ (n : Int) := by omega
            have hn1 : ¬ (n : Int) < 0 := by omega
            clear hz2 hq hfm
            simp only [wantOf]
            by_cases hm : q.v.length = n
            · rw [show manyBad v q.v.length = false by rw [hmb]; simp [hm]] at RES
              simp only [Bool.false_eq_true, if_false] at RES
              have hm1 : (q.v.length : Int) = (n : Int) := by omega
              have hm2 : ((q.v.length : Int) != (n : Int)) = false := by simpa using hm1
              clear hmb hm
              clear hm1
              go_wp2_with (first
                | (go_at_call 21; refine (UN.out _ _ _ HQ.out HFr.out HPr.out HXr.out).mono ?_; rintro e w9 ⟨rfl, hj⟩; obtain ⟨⟨sa, sn, sc⟩, hc3, hrow⟩ := hj.row; obtain rfl : sn = q.v.length := (by obtain ⟨a, c, h⟩ := hrow.shape; cases h; rfl); have hf9 : Fr (at_ rb) (w3of w rb d) w9 := HFr.out.then hj.fr (fun j hj e => by simp at hj; rcases e with e | e; exact e; omega); have x0 := (hj.old 0 (by decide)).trans HXr.out.c0; have x1 := (hj.old 1 (by decide)).trans HXr.out.c1; have x2 := (hj.old 2 (by decide)).trans HXr.out.c2; have hb9 : bx < w9.heap.size := Nat.lt_of_lt_of_le HXr.out.lt hj.fr.size; have hq9 := hj.le; have hpl := hj.pw.pr.lt; clear b0 b1 hlt; obtain ⟨b0, b1, c0, c1, c2, c3, f0, f1, f2, f3, hlt⟩ := boxes hrb hf9; have HJ9 := hide hj; have HC3 := hide hc3; have HF9 := hide hf9; clear hj hrow hf9 hq9))
              refine bodyPost_ret (v := ev ⟨(scan2 v 6).k, (scan2 v 6).n, (scan2 v 6).t, ⟨sa, q.v.length, sc⟩⟩) (by simp [results, Tryd.results51, go_sem, c0, c1, c2, c3]) rfl ?_
              rw [RES.out]
              exact formed_fin hrb (by omega) HFr.out HJ9.out HC3.out (Fr.refl _ _) HJ9.out.pw.pr _ _ _ _
            · rw [show manyBad v q.v.length = true by rw [hmb]; simp [hm]] at RES
              simp only [if_true] at RES
              have hm1 : ¬ (q.v.length : Int) = (n : Int) := by omega
              have hm2 := ne_bne hm1
              clear hmb hm
              go_wp2_with (first
                | (go_at_call 21; refine (UN.out _ _ _ HQ.out HFr.out HPr.out HXr.out).mono ?_; rintro e w9 ⟨rfl, hj⟩; obtain ⟨⟨sa, sn, sc⟩, hc3, hrow⟩ := hj.row; obtain rfl : sn = q.v.length := (by obtain ⟨a, c, h⟩ := hrow.shape; cases h; rfl); have hf9 : Fr (at_ rb) (w3of w rb d) w9 := HFr.out.then hj.fr (fun j hj e => by simp at hj; rcases e with e | e; exact e; omega); have x0 := (hj.old 0 (by decide)).trans HXr.out.c0; have x1 := (hj.old 1 (by decide)).trans HXr.out.c1; have x2 := (hj.old 2 (by decide)).trans HXr.out.c2; have hb9 : bx < w9.heap.size := Nat.lt_of_lt_of_le HXr.out.lt hj.fr.size; have hq9 := hj.le; have hpl := hj.pw.pr.lt; clear b0 b1 hlt; obtain ⟨b0, b1, c0, c1, c2, c3, f0, f1, f2, f3, hlt⟩ := boxes hrb hf9; have HJ9 := hide hj; have HC3 := hide hc3; have HF9 := hide hf9; clear hj hrow hf9 hq9)
                | (go_at_call 35; refine (bad_any rb q.l q.z 5 _ HJ9.out.pw.pr).mono ?_; rintro e w10 ⟨rfl, hp, hf⟩; have hf10 := HF9.out.trans hf; replace x0 := (hf.cell (p := ⟨bx, 0, none⟩) hb9 (by show ¬ bx = rb; omega)).trans x0; replace x1 := (hf.cell (p := ⟨bx, 1, none⟩) hb9 (by show ¬ bx = rb; omega)).trans x1; replace x2 := (hf.cell (p := ⟨bx, 2, none⟩) hb9 (by show ¬ bx = rb; omega)).trans x2; replace hc3 := (hf.cell (p := ⟨bx, 3, none⟩) hb9 (by show ¬ bx = rb; omega)).trans hc3; replace hb9 := Nat.lt_of_lt_of_le hb9 hf.size; clear b0 b1 c0 c1 c2 c3 f0 f1 f2 f3 hlt; obtain ⟨b0, b1, c0, c1, c2, c3, f0, f1, f2, f3, hlt⟩ := boxes hrb hf10; have HP10 := hide hp; have HF10 := hide hf; clear hp hf hf10))
              refine bodyPost_ret (v := ev ⟨(scan2 v 6).k, (scan2 v 6).n, (scan2 v 6).t, ⟨sa, q.v.length, sc⟩⟩) (by simp [results, Tryd.results51, go_sem, c0, c1, c2, c3]) rfl ?_
              rw [RES.out]
              exact formed_fin hrb (by omega) HFr.out HJ9.out HC3.out HF10.out HP10.out _ _ _ _
          | none =>
            have hz2 : headZ v z1 = if isName v = false then bad z1 7 else z1 := by simp [headZ, hfm]
            have hmb : ∀ n, manyBad v n = decide (4 < n) := fun n => by simp [manyBad, hfm]
            simp only [wantOf]
            clear hfm
            cases hnm : isName v with
            | true =>
              rw [hnm] at hz2 HNM
              obtain ⟨q, hq⟩ : ∃ q, until_ one N l1 (z1) = q := ⟨_, rfl⟩
              have HQ := hide hq
              have RES := hide (hRES.out (z1) q (by rw [hz2]; rfl) hq)
              have hmq := hmb q.v.length
              clear hz2 hq hmb
              by_cases hm : 4 < q.v.length
              · rw [show manyBad v q.v.length = true by rw [hmq]; simp [hm]] at RES
                simp only [if_true] at RES
                have hm1 : (4 : Int) < (q.v.length : Int) := by omega
                clear hmq hm
                go_wp2_with (first
                  | (go_at_call 11; refine (HNM.out _).mono ?_; rintro e w8 ⟨rfl, hfn⟩; have HF8 := hide (HFr.out.trans (w0_fr hfn rb)); have HP8 := hide (HPr.out.fr hfn id); have HX8 := hide (HXr.out.fr hfn id); clear b0 b1 hlt; obtain ⟨b0, b1, -, -, -, -, -, -, -, -, hlt⟩ := boxes hrb HF8.out; have hrb8 : rb < w8.heap.size := HP8.out.lt; clear hfn)
                  | (go_at_call 21; refine (UN.out _ _ _ HQ.out HF8.out HP8.out HX8.out).mono ?_; rintro e w9 ⟨rfl, hj⟩; obtain ⟨⟨sa, sn, sc⟩, hc3, hrow⟩ := hj.row; obtain rfl : sn = q.v.length := (by obtain ⟨a, c, h⟩ := hrow.shape; cases h; rfl); have hf9 : Fr (at_ rb) (w3of w rb d) w9 := HF8.out.then hj.fr (fun j hj e => by simp at hj; rcases e with e | e; exact e; omega); have x0 := (hj.old 0 (by decide)).trans HX8.out.c0; have x1 := (hj.old 1 (by decide)).trans HX8.out.c1; have x2 := (hj.old 2 (by decide)).trans HX8.out.c2; have hb9 : bx < w9.heap.size := Nat.lt_of_lt_of_le HX8.out.lt hj.fr.size; have hq9 := hj.le; have hpl := hj.pw.pr.lt; clear b0 b1 hlt; obtain ⟨b0, b1, c0, c1, c2, c3, f0, f1, f2, f3, hlt⟩ := boxes hrb hf9; have HJ9 := hide hj; have HC3 := hide hc3; have HF9 := hide hf9; clear hj hrow hf9 hq9)
                  | (go_at_call 35; refine (bad_any rb q.l q.z 5 _ HJ9.out.pw.pr).mono ?_; rintro e w10 ⟨rfl, hp, hf⟩; have hf10 := HF9.out.trans hf; replace x0 := (hf.cell (p := ⟨bx, 0, none⟩) hb9 (by show ¬ bx = rb; omega)).trans x0; replace x1 := (hf.cell (p := ⟨bx, 1, none⟩) hb9 (by show ¬ bx = rb; omega)).trans x1; replace x2 := (hf.cell (p := ⟨bx, 2, none⟩) hb9 (by show ¬ bx = rb; omega)).trans x2; replace hc3 := (hf.cell (p := ⟨bx, 3, none⟩) hb9 (by show ¬ bx = rb; omega)).trans hc3; replace hb9 := Nat.lt_of_lt_of_le hb9 hf.size; clear b0 b1 c0 c1 c2 c3 f0 f1 f2 f3 hlt; obtain ⟨b0, b1, c0, c1, c2, c3, f0, f1, f2, f3, hlt⟩ := boxes hrb hf10; have HP10 := hide hp; have HF10 := hide hf; clear hp hf hf10))
                refine bodyPost_ret (v := ev ⟨(scan2 v 6).k, (scan2 v 6).n, (scan2 v 6).t, ⟨sa, q.v.length, sc⟩⟩) (by simp [results, Tryd.results51, go_sem, c0, c1, c2, c3]) rfl ?_
                rw [RES.out]
                exact formed_fin hrb (by omega) HF8.out HJ9.out HC3.out HF10.out HP10.out _ _ _ _
              · rw [show manyBad v q.v.length = false by rw [hmq]; simp [hm]] at RES
                simp only [Bool.false_eq_true, if_false] at RES
                have hm1 : ¬ (4 : Int) < (q.v.length : Int) := by omega
                clear hmq hm
                go_wp2_with (first
                  | (go_at_call 11; refine (HNM.out _).mono ?_; rintro e w8 ⟨rfl, hfn⟩; have HF8 := hide (HFr.out.trans (w0_fr hfn rb)); have HP8 := hide (HPr.out.fr hfn id); have HX8 := hide (HXr.out.fr hfn id); clear b0 b1 hlt; obtain ⟨b0, b1, -, -, -, -, -, -, -, -, hlt⟩ := boxes hrb HF8.out; have hrb8 : rb < w8.heap.size := HP8.out.lt; clear hfn)
                  | (go_at_call 21; refine (UN.out _ _ _ HQ.out HF8.out HP8.out HX8.out).mono ?_; rintro e w9 ⟨rfl, hj⟩; obtain ⟨⟨sa, sn, sc⟩, hc3, hrow⟩ := hj.row; obtain rfl : sn = q.v.length := (by obtain ⟨a, c, h⟩ := hrow.shape; cases h; rfl); have hf9 : Fr (at_ rb) (w3of w rb d) w9 := HF8.out.then hj.fr (fun j hj e => by simp at hj; rcases e with e | e; exact e; omega); have x0 := (hj.old 0 (by decide)).trans HX8.out.c0; have x1 := (hj.old 1 (by decide)).trans HX8.out.c1; have x2 := (hj.old 2 (by decide)).trans HX8.out.c2; have hb9 : bx < w9.heap.size := Nat.lt_of_lt_of_le HX8.out.lt hj.fr.size; have hq9 := hj.le; have hpl := hj.pw.pr.lt; clear b0 b1 hlt; obtain ⟨b0, b1, c0, c1, c2, c3, f0, f1, f2, f3, hlt⟩ := boxes hrb hf9; have HJ9 := hide hj; have HC3 := hide hc3; have HF9 := hide hf9; clear hj hrow hf9 hq9))
                refine bodyPost_ret (v := ev ⟨(scan2 v 6).k, (scan2 v 6).n, (scan2 v 6).t, ⟨sa, q.v.length, sc⟩⟩) (by simp [results, Tryd.results51, go_sem, c0, c1, c2, c3]) rfl ?_
                rw [RES.out]
                exact formed_fin hrb (by omega) HF8.out HJ9.out HC3.out (Fr.refl _ _) HJ9.out.pw.pr _ _ _ _
            | false =>
              rw [hnm] at hz2 HNM
              obtain ⟨q, hq⟩ : ∃ q, until_ one N l1 (bad z1 7) = q := ⟨_, rfl⟩
              have HQ := hide hq
              have RES := hide (hRES.out (bad z1 7) q (by rw [hz2]; rfl) hq)
              have hmq := hmb q.v.length
              clear hz2 hq hmb
              by_cases hm : 4 < q.v.length
              · rw [show manyBad v q.v.length = true by rw [hmq]; simp [hm]] at RES
                simp only [if_true] at RES
                have hm1 : (4 : Int) < (q.v.length : Int) := by omega
                clear hmq hm
                go_wp2_with (first
                  | (go_at_call 11; refine (HNM.out _).mono ?_; rintro e w8 ⟨rfl, hfn⟩; have HF8 := hide (HFr.out.trans (w0_fr hfn rb)); have HP8 := hide (HPr.out.fr hfn id); have HX8 := hide (HXr.out.fr hfn id); clear b0 b1 hlt; obtain ⟨b0, b1, -, -, -, -, -, -, -, -, hlt⟩ := boxes hrb HF8.out; have hrb8 : rb < w8.heap.size := HP8.out.lt; clear hfn)
                  | (go_at_call 21; refine (UN.out _ _ _ HQ.out HF7.out HP7.out HX7.out).mono ?_; rintro e w9 ⟨rfl, hj⟩; obtain ⟨⟨sa, sn, sc⟩, hc3, hrow⟩ := hj.row; obtain rfl : sn = q.v.length := (by obtain ⟨a, c, h⟩ := hrow.shape; cases h; rfl); have hf9 : Fr (at_ rb) (w3of w rb d) w9 := HF7.out.then hj.fr (fun j hj e => by simp at hj; rcases e with e | e; exact e; omega); have x0 := (hj.old 0 (by decide)).trans HX7.out.c0; have x1 := (hj.old 1 (by decide)).trans HX7.out.c1; have x2 := (hj.old 2 (by decide)).trans HX7.out.c2; have hb9 : bx < w9.heap.size := Nat.lt_of_lt_of_le HX7.out.lt hj.fr.size; have hq9 := hj.le; have hpl := hj.pw.pr.lt; clear b0 b1 hlt; obtain ⟨b0, b1, c0, c1, c2, c3, f0, f1, f2, f3, hlt⟩ := boxes hrb hf9; have HJ9 := hide hj; have HC3 := hide hc3; have HF9 := hide hf9; clear hj hrow hf9 hq9)
                  | (go_at_call 35; refine (bad_any rb q.l q.z 5 _ HJ9.out.pw.pr).mono ?_; rintro e w10 ⟨rfl, hp, hf⟩; have hf10 := HF9.out.trans hf; replace x0 := (hf.cell (p := ⟨bx, 0, none⟩) hb9 (by show ¬ bx = rb; omega)).trans x0; replace x1 := (hf.cell (p := ⟨bx, 1, none⟩) hb9 (by show ¬ bx = rb; omega)).trans x1; replace x2 := (hf.cell (p := ⟨bx, 2, none⟩) hb9 (by show ¬ bx = rb; omega)).trans x2; replace hc3 := (hf.cell (p := ⟨bx, 3, none⟩) hb9 (by show ¬ bx = rb; omega)).trans hc3; replace hb9 := Nat.lt_of_lt_of_le hb9 hf.size; clear b0 b1 c0 c1 c2 c3 f0 f1 f2 f3 hlt; obtain ⟨b0, b1, c0, c1, c2, c3, f0, f1, f2, f3, hlt⟩ := boxes hrb hf10; have HP10 := hide hp; have HF10 := hide hf; clear hp hf hf10)
                  | (go_at_call 35; refine (bad_any rb l1 z1 7 _ HP8.out).mono ?_; rintro e wb ⟨rfl, hp, hf⟩; have HF7 := hide (HF8.out.trans hf); have HP7 := hide hp; have HX7 := hide (HX8.out.fr hf (by show ¬ bx = rb; omega)); clear b0 b1 hlt; obtain ⟨b0, b1, -, -, -, -, -, -, -, -, hlt⟩ := boxes hrb HF7.out; have hrb7 : rb < wb.heap.size := HP7.out.lt; clear hp hf))
                refine bodyPost_ret (v := ev ⟨(scan2 v 6).k, (scan2 v 6).n, (scan2 v 6).t, ⟨sa, q.v.length, sc⟩⟩) (by simp [results, Tryd.results51, go_sem, c0, c1, c2, c3]) rfl ?_
                rw [RES.out]
                exact formed_fin hrb (by omega) HF7.out HJ9.out HC3.out HF10.out HP10.out _ _ _ _
              · rw [show manyBad v q.v.length = false by rw [hmq]; simp [hm]] at RES
                simp only [Bool.false_eq_true, if_false] at RES
                have hm1 : ¬ (4 : Int) < (q.v.length : Int) := by omega
                clear hmq hm
                go_wp2_with (first
                  | (go_at_call 11; refine (HNM.out _).mono ?_; rintro e w8 ⟨rfl, hfn⟩; have HF8 := hide (HFr.out.trans (w0_fr hfn rb)); have HP8 := hide (HPr.out.fr hfn id); have HX8 := hide (HXr.out.fr hfn id); clear b0 b1 hlt; obtain ⟨b0, b1, -, -, -, -, -, -, -, -, hlt⟩ := boxes hrb HF8.out; have hrb8 : rb < w8.heap.size := HP8.out.lt; clear hfn)
                  | (go_at_call 21; refine (UN.out _ _ _ HQ.out HF7.out HP7.out HX7.out).mono ?_; rintro e w9 ⟨rfl, hj⟩; obtain ⟨⟨sa, sn, sc⟩, hc3, hrow⟩ := hj.row; obtain rfl : sn = q.v.length := (by obtain ⟨a, c, h⟩ := hrow.shape; cases h; rfl); have hf9 : Fr (at_ rb) (w3of w rb d) w9 := HF7.out.then hj.fr (fun j hj e => by simp at hj; rcases e with e | e; exact e; omega); have x0 := (hj.old 0 (by decide)).trans HX7.out.c0; have x1 := (hj.old 1 (by decide)).trans HX7.out.c1; have x2 := (hj.old 2 (by decide)).trans HX7.out.c2; have hb9 : bx < w9.heap.size := Nat.lt_of_lt_of_le HX7.out.lt hj.fr.size; have hq9 := hj.le; have hpl := hj.pw.pr.lt; clear b0 b1 hlt; obtain ⟨b0, b1, c0, c1, c2, c3, f0, f1, f2, f3, hlt⟩ := boxes hrb hf9; have HJ9 := hide hj; have HC3 := hide hc3; have HF9 := hide hf9; clear hj hrow hf9 hq9)
                  | (go_at_call 35; refine (bad_any rb l1 z1 7 _ HP8.out).mono ?_; rintro e wb ⟨rfl, hp, hf⟩; have HF7 := hide (HF8.out.trans hf); have HP7 := hide hp; have HX7 := hide (HX8.out.fr hf (by show ¬ bx = rb; omega)); clear b0 b1 hlt; obtain ⟨b0, b1, -, -, -, -, -, -, -, -, hlt⟩ := boxes hrb HF7.out; have hrb7 : rb < wb.heap.size := HP7.out.lt; clear hp hf))
                refine bodyPost_ret (v := ev ⟨(scan2 v 6).k, (scan2 v 6).n, (scan2 v 6).t, ⟨sa, q.v.length, sc⟩⟩) (by simp [results, Tryd.results51, go_sem, c0, c1, c2, c3]) rfl ?_
                rw [RES.out]
                exact formed_fin hrb (by omega) HF7.out HJ9.out HC3.out (Fr.refl _ _) HJ9.out.pw.pr _ _ _ _
end Go.Proofs.YtkmdamljhagogaaDoor
end
section
/- An expression in quotes. -/
namespace Go.Proofs.YtkmdamljhagogaaDoor
open Go.RowKit

theorem noQ_yes {c : UInt8} (h : noQ c = true) : ¬ (c.toNat : Int) = 39 := u8_no (d := 39) rfl (by simpa [noQ] using h)
theorem noQ_no {c : UInt8} (h : noQ c = false) : c = 39 := by simpa [noQ] using h
theorem XPost.drew {rb : Nat} {w : World} {res : Rd Ex} {e : Ending} {w' : World} (h : XPost ev ExOk rb w res e w') : XPost ev ExOk rb w res e w'.drew := by
  obtain ⟨r, h1, h2, h3, h4⟩ := h
  exact ⟨r, h1, h2.drew, h3.drew, ex_stays _ _ nothing _ _ _ _ h4 (Fr.refl nothing w').drew (fun _ _ => id) (fun _ hk => hk)⟩
set_option maxHeartbeats 1000000 in
set_option maxRecDepth 20000 in
theorem expr_quote (rb : Nat) (l : Bs) (d : Int) (w : World) (h : Pr rb l 0 w) (hl : l.length ≤ 1500) (hd : d ≤ 10) {t : Bs} (hs : skip l = 39 :: t) :
    Calls Tryd.prog 51 #[.pointer (some ⟨rb, 0, none⟩), .int .i64 d] w (XPost ev ExOk rb w (quoted t 0)) := by
  have HD := hide (deep_any rb l 0 d _ (h.fr (fr3 w rb d) (S := nothing) id))
  have hrb := h.lt
  have e0 : deepZ d 0 = 0 := by simp [deepZ]; omega
  rw [e0] at HD
  have htl : t.length + 1 ≤ 1500 := by have := skip_len l; rw [hs] at this; simp at this; omega
  have HS := hide hs
  clear h e0 hs
  have hsz : (bs (39 :: t)).size = t.length + 1 := by rw [bs_size]; rfl
  go_enter Tryd.func51, Tryd.ntmps51
  go_wp2_with (first
    | (go_at_call 50; refine HD.out.mono ?_; rintro e w2 ⟨rfl, hp, hf⟩; have hpk := peek_any rb l 0 w2 hp hl; rw [HS.out, show ((peekC (39 :: t)).toNat : Int) = 39 from rfl] at hpk; have HPK := hide hpk; obtain ⟨b0, b1, -, -, -, -, -, -, -, -, hlt⟩ := boxes hrb hf; have HF := hide hf; clear hp hf hpk)
    | (go_at_call 18; refine HPK.out.mono ?_; rintro e w4 ⟨rfl, hp, hf⟩; have hf4 := HF.out.trans hf; clear b0 b1 hlt; obtain ⟨b0, b1, c0, c1, c2, c3, f0, f1, f2, f3, hlt⟩ := boxes hrb hf4; have s0 := hp.s; have s1 := hp.e; have g0 := hp.f0; have g1 := hp.f1; have hl4 := hp.lt; have HP4 := hide hp; have HF4 := hide hf4; clear hp hf hf4))
  have hrw : ¬ w.heap.size = rb := by omega
  go_loop [6] (fun i => ∃ j : Nat, j ≤ t.length ∧ i = .int .i64 ((1 + j : Nat) : Int) ∧ Hid ((t.take j).all noQ = true)) (fun i => t.length + 1 - (intOf i).toNat)
  case atStart => exact ⟨0, Nat.zero_le _, rfl, rfl⟩
  case round =>
    obtain ⟨j, hj, rfl, hall⟩ := hrel
    have stop : (∀ c, t[j]? = some c → noQ c = false) → t.takeWhile noQ = t.take j ∧ t.dropWhile noQ = t.drop j := while_stop hall.out
    by_cases hjl : j < t.length
    · have hz : ((1 + j : Nat) : Int) < ((bs (39 :: t)).size : Int) := by rw [hsz]; omega
      have hz' : 1 + j < (bs (39 :: t)).size := by rw [hsz]; omega
      generalize hc : (bs (39 :: t))[1 + j]'hz' = c
      have HCK : Hid (t[j] = c) := by
        have h1 : (bs (39 :: t))[1 + j]'hz' = (39 :: t)[1 + j]'(by simp; omega) := rfl
        show t[j] = c
        rw [← hc, h1]
        simp [Nat.add_comm 1 j]
      have HG : Hid (t[j]? = some c) := by show t[j]? = some c; rw [List.getElem?_eq_getElem hjl]; exact congrArg some HCK.out
      cases hw : noQ c with
      | true =>
        have n1 := noQ_yes hw
        have b1 := ne_bne n1
        have HL := hide (all_take hall.out hjl HCK.out hw)
        clear hw stop
        go_wp2
        go_round
        case rel => exact ⟨j + 1, by omega, by go_num, HL⟩
        case measure => simp [intOf]; omega
      | false =>
        have HST := hide (stop (fun c' h' => by rw [HG.out] at h'; cases h'; exact hw))
        have hq := noQ_no hw
        clear stop hw
        subst hq
        have hdj : t.drop j = 39 :: t.drop (j + 1) := by rw [List.drop_eq_getElem_cons hjl, HCK.out]
        have hQ : quoted t 0 = ⟨.mk 2 0 (t.take j) [], t.drop (j + 1), if isWord (t.take j) then 0 else bad 0 2⟩ := by
          unfold quoted
          rw [HST.out.1, HST.out.2, hdj]
        have HW := hide (fun w => isWord_any (t.take j) w (by rw [List.length_take]; omega))
        have hne : ¬ ((1 + j : Nat) : Int) = ((bs (39 :: t)).size : Int) := by omega
        have ee1 : (bs (39 :: t)).extract 1 (1 + j) = bs (t.take j) := by
          rw [bs_extract, bs_list]
          congr 1
          simp only [List.drop_succ_cons, List.drop_zero]
          congr 1
          omega
        have ee2 : ∀ b, t.length + 1 ≤ b → (bs (39 :: t)).extract (1 + j + 1) b = bs (t.drop (j + 1)) := fun b hb => by
          rw [bs_drop (39 :: t) (by simpa using hb)]
          congr 1
          rw [show 1 + j + 1 = (j + 1) + 1 by omega, List.drop_succ_cons]
        have HE2 := hide ee2
        have HQ := hide hQ
        clear hdj HST HG HCK hall hQ ee2
        generalize hv : t.take j = v at *
        cases hq : isWord v with
        | true =>
          rw [hq] at HW HQ
          have HQ2 : Hid (quoted t 0 = ⟨.mk 2 0 v [], t.drop (j + 1), 0⟩) := HQ.out
          clear HQ
          go_wp2_with (first | (go_at_call 33; refine (HW.out _).mono ?_; rintro e w5 ⟨rfl, rfl⟩))
          go_region
          all_goals go_wp2_with (first | (go_at_call 33; refine (HW.out _).mono ?_; rintro e w5 ⟨rfl, rfl⟩))
          all_goals refine bodyPost_ret (v := ev ⟨2, 0, v, nilS⟩) (by simp [results, Tryd.results51, go_sem, c0, c1, c2, c3]) rfl ?_
          all_goals rw [HQ2.out]
          all_goals exact (ex_fin (res := ⟨.mk 2 0 v [], t.drop (j + 1), 0⟩) hrb (HF4.out.setCell (p := ⟨rb, 0, none⟩) (.inl rfl) _) (HP4.out.put' (HE2.out _ (Nat.le_refl _))) (ex_leaf _ _ _ _ _) _ _ _ _).drew
        | false =>
          rw [hq] at HW HQ
          have HQ2 : Hid (quoted t 0 = ⟨.mk 2 0 v [], t.drop (j + 1), bad 0 2⟩) := HQ.out
          clear HQ
          go_wp2_with (first | (go_at_call 33; refine (HW.out _).mono ?_; rintro e w5 ⟨rfl, rfl⟩))
          go_region
          all_goals go_wp2_with (first
            | (go_at_call 33; refine (HW.out _).mono ?_; rintro e w5 ⟨rfl, rfl⟩; have HP6 := hide (HP4.out.put' (HE2.out _ (Nat.le_refl _))).drew; have FF := hide (HF4.out.setCell (p := ⟨rb, 0, none⟩) (.inl rfl) (.string ((bs (39 :: t)).extract (1 + j + 1) (t.length + 1)))).drew)
            | (go_at_call 35; refine (bad_any rb (t.drop (j + 1)) 0 2 _ HP6.out).mono ?_; rintro e w7 ⟨rfl, hp, hf⟩; have hf7 := FF.out.trans hf; clear b0 b1 c0 c1 c2 c3 f0 f1 f2 f3 hlt; obtain ⟨b0, b1, c0, c1, c2, c3, f0, f1, f2, f3, hlt⟩ := boxes hrb hf7; have HP7 := hide hp; have HF7 := hide hf7; clear hp hf hf7))
          all_goals refine bodyPost_ret (v := ev ⟨2, 0, v, nilS⟩) (by simp [results, Tryd.results51, go_sem, c0, c1, c2, c3]) rfl ?_
          all_goals rw [HQ2.out]
          all_goals exact ex_fin (res := ⟨.mk 2 0 v [], t.drop (j + 1), bad 0 2⟩) hrb HF7.out HP7.out (ex_leaf _ _ _ _ _) _ _ _ _
    · have hjt : j = t.length := by omega
      have HST := hide (stop (fun c' h' => by rw [List.getElem?_eq_none (by omega)] at h'; cases h'))
      have HQ : Hid (quoted t 0 = ⟨.mk 2 0 [] [], t, bad 0 8⟩) := by
        show quoted t 0 = _
        unfold quoted
        rw [HST.out.2, List.drop_of_length_le (by omega)]
      clear stop hall HST
      have hz : ¬ ((1 + j : Nat) : Int) < ((bs (39 :: t)).size : Int) := by rw [hsz]; omega
      have hze : ((1 + j : Nat) : Int) = ((bs (39 :: t)).size : Int) := by rw [hsz]; omega
      subst hjt
      clear hz hze
      have ha : (1 : Int) + (t.length : Int) = (t.length : Int) + 1 := by omega
      have HP6 := hide (HP4.out.put' (bs_tail 39 t (Nat.le_refl _))).drew
      have FF := hide (HF4.out.setCell (p := ⟨rb, 0, none⟩) (.inl rfl) (.string ((bs (39 :: t)).extract 1 (t.length + 1)))).drew
      go_wp2_with fail
      go_region
      all_goals go_wp2_with (first
        | (go_at_call 35; refine (bad_any rb t 0 8 _ HP6.out).mono ?_; rintro e w7 ⟨rfl, hp, hf⟩; have hf7 := FF.out.trans hf; clear b0 b1 c0 c1 c2 c3 f0 f1 f2 f3 hlt; obtain ⟨b0, b1, c0, c1, c2, c3, f0, f1, f2, f3, hlt⟩ := boxes hrb hf7; have HP7 := hide hp; have HF7 := hide hf7; clear hp hf hf7))
      all_goals refine bodyPost_ret (v := ev ⟨2, 0, [], nilS⟩) (by simp [results, Tryd.results51, go_sem, c0, c1, c2, c3, bs]) rfl ?_
      all_goals rw [HQ.out]
      all_goals exact ex_fin (res := ⟨.mk 2 0 [] [], t, bad 0 8⟩) hrb HF7.out HP7.out (ex_leaf _ _ _ _ _) _ _ _ _
end Go.Proofs.YtkmdamljhagogaaDoor
end
section
/- Expressions. -/
namespace Go.Proofs.YtkmdamljhagogaaDoor
open Go.RowKit

theorem single_eq (w0 : World) (rb : Nat) (l : Bs) (d : Int) (w : World) (h : Pw w0 rb l 0 w) (hd : d ≤ 10) (h39 : (skip l).head? ≠ some 39) (h40 : (skip l).head? ≠ some 40) :
    Calls Tryd.prog 51 #[.pointer (some ⟨rb, 0, none⟩), .int .i64 d] w (XPost ev ExOk rb w (single (skip l) 0)) := by
  obtain ⟨v, l', z, hw⟩ : ∃ v l' z, word (skip l) 0 = ⟨v, l', z⟩ := ⟨_, _, _, rfl⟩
  have e : single (skip l) 0 = ⟨wordE v, l', wordEZ v z⟩ := by unfold single; rw [hw]
  rw [e]
  by_cases hA : ∃ n, Lib.atoiAll v = .ok n
  · obtain ⟨n, hA⟩ := hA
    have hn := numOf_ok hA
    by_cases hI : Lib.itoa n = v
    · rw [if_pos hI] at hn
      cases hi : inInt n with
      | true =>
        have e1 : wordE v = .mk 1 n [] [] := by simp [wordE, hn]
        have e2 : wordEZ v z = z := by simp [wordEZ, hn, hi]
        rw [e1, e2]
        exact expr_word_int w0 rb l d w h hd h39 h40 hw hA hI hi
      | false =>
        have e1 : wordE v = .mk 1 n [] [] := by simp [wordE, hn]
        have e2 : wordEZ v z = bad z 3 := by simp [wordEZ, hn, hi]
        rw [e1, e2]
        exact expr_word_big w0 rb l d w h hd h39 h40 hw hA hI hi
    · rw [if_neg hI] at hn
      have e1 : wordE v = .mk 3 0 v [] := by simp [wordE, hn]
      rw [e1]
      cases hi : isName v with
      | true =>
        have e2 : wordEZ v z = z := by simp [wordEZ, hn, hi]
        rw [e2]
        exact expr_word_odd_yes w0 rb l d w h hd h39 h40 hw hA hI hi
      | false =>
        have e2 : wordEZ v z = bad z 7 := by simp [wordEZ, hn, hi]
        rw [e2]
        exact expr_word_odd_no w0 rb l d w h hd h39 h40 hw hA hI hi
  · have hA' : ∀ n, Lib.atoiAll v ≠ .ok n := fun n e => hA ⟨n, e⟩
    have hn := numOf_no hA'
    have e1 : wordE v = .mk 3 0 v [] := by simp [wordE, hn]
    rw [e1]
    cases hi : isName v with
    | true =>
      have e2 : wordEZ v z = z := by simp [wordEZ, hn, hi]
      rw [e2]
      exact expr_word_name_yes w0 rb l d w h hd h39 h40 hw hA' hi
    | false =>
      have e2 : wordEZ v z = bad z 7 := by simp [wordEZ, hn, hi]
      rw [e2]
      exact expr_word_name_no w0 rb l d w h hd h39 h40 hw hA' hi
/-- Expressions. -/
theorem expr_any (w0 : World) (rb N : Nat) (hN : 1502 ≤ N) : ∀ (k : Nat) (d : Int) (l : Bs) (z : Int) (w : World), d = 11 - (k : Int) → k ≤ 11 → Pw w0 rb l z w →
    Calls Tryd.prog 51 #[.pointer (some ⟨rb, 0, none⟩), .int .i64 d] w (XPost ev ExOk rb w (expr N k l z))
  | 0, d, l, z, w, hd, _, h => by
    have e : deepZ d z = bad z 9 := by simp [deepZ]; omega
    have := expr_not rb l z d w h.pr (by rw [e]; exact bad_ne _ _ (by decide))
    rw [e] at this
    exact this
  | k + 1, d, l, z, w, hd, hk, h => by
    by_cases hz : z = 0
    · subst hz
      cases hs : skip l with
      | nil =>
        have e : expr N (k + 1) l 0 = single (skip l) 0 := by simp [expr, hs]
        rw [e]
        exact single_eq w0 rb l d w h (by omega) (by rw [hs]; simp) (by rw [hs]; simp)
      | cons c t =>
        by_cases hc : c = 39
        · subst hc
          have e : expr N (k + 1) l 0 = quoted t 0 := by simp [expr, hs]
          rw [e]
          exact expr_quote rb l d w h.pr h.len (by omega) hs
        · by_cases hc2 : c = 40
          · subst hc2
            have e : expr N (k + 1) l 0 = formed (until_ (expr N k) N) t 0 := by simp [expr, hs]
            rw [e]
            exact expr_formed w0 rb l d w h (by omega) (by omega) hs (expr N k) N hN (expr_less N k) (expr_small N k) (fun l w h => expr_any w0 rb N hN k (d + 1) l 0 w (by omega) (by omega) h)
          · have e : expr N (k + 1) l 0 = single (skip l) 0 := by simp [expr, hs, hc, hc2]
            rw [e]
            exact single_eq w0 rb l d w h (by omega) (by rw [hs]; simpa using hc) (by rw [hs]; simpa using hc2)
    · have e : deepZ d z = z := by simp [deepZ]; omega
      have e2 : expr N (k + 1) l z = ⟨ex0, l, z⟩ := by unfold expr; rw [if_neg hz]
      rw [e2]
      have := expr_not rb l z d w h.pr (by rw [e]; exact hz)
      rw [e] at this
      exact this
end Go.Proofs.YtkmdamljhagogaaDoor
end
section
/- Statements. -/
namespace Go.Proofs.YtkmdamljhagogaaDoor
open Go.RowKit

theorem kindOf_le (v : Bs) : kindOf v ≤ 9 := by
  unfold kindOf
  repeat (split; omega)
  omega
set_option maxHeartbeats 400000 in
set_option maxRecDepth 20000 in
/-- Too deep, or wrong already. -/
theorem stmt_not (rb : Nat) (l : Bs) (z d : Int) (w : World) (h : Pr rb l z w) (hz : deepZ d z ≠ 0) :
    Calls Tryd.prog 38 #[.pointer (some ⟨rb, 0, none⟩), .int .i64 d] w (XPost sv StOk rb w ⟨st0, l, deepZ d z⟩) := by
  have hF1 : Fr nothing w (w.alloc (.cells #[.int .i64 0, .string ⟨#[]⟩, .slice none 0 0, .slice none 0 0, .slice none 0 0] 88)) := (Fr.refl _ w).alloc _
  have HD := hide (deep_any rb l z d _ (h.fr hF1 id))
  have hrb := h.lt
  have hz' : (deepZ d z == 0) = false := by simpa using hz
  rw [hz'] at HD
  clear h hz' hF1
  go_enter Tryd.func38, Tryd.ntmps38
  go_wp2_with (go_at_call 50; refine HD.out.mono ?_; rintro e w2 ⟨rfl, hp, hf⟩; obtain ⟨y0, y1, y2, y3, y4, yf, yl⟩ := (B5.made w (.int .i64 0) (.string ⟨#[]⟩) (.slice none 0 0) (.slice none 0 0) (.slice none 0 0) 88).fr hf (by show ¬ w.heap.size = rb; omega); have yf0 := yf 0; have yf1 := yf 1; have yf2 := yf 2; have yf3 := yf 3; have yf4 := yf 4; have HP := hide hp; have HF := hide hf; clear hp hf yf)
  refine bodyPost_ret (v := sv ⟨0, [], nilS, nilS, nilS⟩) (by simp [results, Tryd.results38, go_sem, y0, y1, y2, y3, y4, bs]) rfl ?_
  exact st_fin (B := w.heap.size + 1) (res := ⟨st0, l, deepZ d z⟩) hrb (((Fr.refl (at_ rb) w).alloc _).trans HF.out) HP.out rfl (by omega) GOk.nil GOk.nil GOk.nil _ _ _ _ _
theorem parts_eq (e : Reader Ex) (nest : Reader (List St)) (k : Nat) (l : Bs) (z : Int) : parts e nest k l z = ⟨.mk k (optName k l z).v (times e (argsOf k) (optName k l z).l (optName k l z).z).v (restP nest k (times e (argsOf k) (optName k l z).l (optName k l z).z).l (times e (argsOf k) (optName k l z).l (optName k l z).z).z).v.1 (restP nest k (times e (argsOf k) (optName k l z).l (optName k l z).z).l (times e (argsOf k) (optName k l z).l (optName k l z).z).z).v.2, (restP nest k (times e (argsOf k) (optName k l z).l (optName k l z).z).l (times e (argsOf k) (optName k l z).l (optName k l z).z).z).l, (restP nest k (times e (argsOf k) (optName k l z).l (optName k l z).z).l (times e (argsOf k) (optName k l z).l (optName k l z).z).z).z⟩ := rfl
/-- Statements. -/
theorem stmt_any (w0 : World) (rb N : Nat) (hN : 1502 ≤ N) : ∀ (k : Nat) (d : Int) (l : Bs) (z : Int) (w : World), d = 11 - (k : Int) → k ≤ 11 → Pw w0 rb l z w →
    Calls Tryd.prog 38 #[.pointer (some ⟨rb, 0, none⟩), .int .i64 d] w (XPost sv StOk rb w (stmt N k l z))
  | 0, d, l, z, w, hd, _, h => by
    have e : deepZ d z = bad z 9 := by simp [deepZ]; omega
    have := stmt_not rb l z d w h.pr (by rw [e]; exact bad_ne _ _ (by decide))
    rw [e] at this
    exact this
  | k + 1, d, l, z, w, hd, hk, h => by
    by_cases hz : z = 0
    · subst hz
      have hone : ∀ l z w, Pw w0 rb l z w → Calls Tryd.prog 51 #[.pointer (some ⟨rb, 0, none⟩), .int .i64 (d + 1)] w (XPost ev ExOk rb w (expr N k l z)) := fun l z w h => expr_any w0 rb N hN k (d + 1) l z w (by omega) (by omega) h
      have hnest : ∀ l z w, Pw w0 rb l z w → Calls Tryd.prog 23 #[.pointer (some ⟨rb, 0, none⟩), .int .i64 (d + 1)] w (LPost rb w (until_ (stmt N k) N l z)) := fun l z w h =>
        stmts_any w0 rb (d + 1) (stmt N k) N hN (stmt_less N k) (stmt_small N k) (by omega) (by omega) (fun l w h => stmt_any w0 rb N hN k (d + 1) l 0 w (by omega) (by omega) h) l z w h
      obtain ⟨⟨⟩, l1, z1, hm⟩ : ∃ u l1 z1, must 40 l 0 = ⟨u, l1, z1⟩ := ⟨_, _, _, rfl⟩
      obtain ⟨v, l2, z2, hw⟩ : ∃ v l2 z2, word l1 z1 = ⟨v, l2, z2⟩ := ⟨_, _, _, rfl⟩
      have e : stmt N (k + 1) l 0 = parts (expr N k) (until_ (stmt N k) N) (kindOf v) l2 (if kindOf v = 0 then bad z2 1 else z2) := by
        rw [stmt]
        simp only [if_true, stmtP, hm, hw]
      rw [e, parts_eq]
      have hle := kindOf_le v
      obtain ⟨c, hc⟩ : ∃ c, kindOf v = c := ⟨_, rfl⟩
      rw [hc] at hle ⊢
      have hes := expr_small N k
      have hel := expr_less N k
      have hek := expr_keeps N k
      by_cases h0 : c = 0
      · have e1 : optName c l2 (if c = 0 then bad z2 1 else z2) = ⟨[], l2, bad z2 1⟩ := by simp [optName, h0]
        rw [e1]
        have := stmt_zero w0 rb l d w h (by omega) (by omega) (expr N k) hes hel hek hone hm hw hc h0 rfl
        simpa [restP, h0] using this
      · rw [if_neg h0]
        by_cases h1 : c = 1
        · obtain ⟨nm, l3, z3, hnm⟩ : ∃ nm l3 z3, name l2 z2 = ⟨nm, l3, z3⟩ := ⟨_, _, _, rfl⟩
          have e1 : optName c l2 z2 = ⟨nm, l3, z3⟩ := by simp [optName, h1, hnm]
          rw [e1]
          have := stmt_let w0 rb l d w h (by omega) (by omega) (expr N k) hes hel hek hone hm hw hc h1 hnm rfl
          simpa [restP, h1] using this
        · by_cases h2 : c = 2
          · obtain ⟨nm, l3, z3, hnm⟩ : ∃ nm l3 z3, name l2 z2 = ⟨nm, l3, z3⟩ := ⟨_, _, _, rfl⟩
            have e1 : optName c l2 z2 = ⟨nm, l3, z3⟩ := by simp [optName, h2, hnm]
            rw [e1]
            have := stmt_set w0 rb l d w h (by omega) (by omega) (expr N k) hes hel hek hone hm hw hc h2 hnm rfl
            simpa [restP, h2] using this
          · have e1 : optName c l2 z2 = ⟨[], l2, z2⟩ := by simp [optName, h1, h2]
            rw [e1]
            by_cases h3 : c = 3
            · have := stmt_if w0 rb l d w h (by omega) (by omega) (expr N k) hes hel hek hone (until_ (stmt N k) N) hnest (until_small (stmt_small N k) N) hm hw hc h3 rfl
              rw [h3] at this ⊢
              exact this
            · by_cases h4 : c = 4
              · have := stmt_while w0 rb l d w h (by omega) (by omega) (expr N k) hes hel hek hone (until_ (stmt N k) N) hnest hm hw hc h4 rfl
                simpa [restP, h4] using this
              · have := stmt_plain w0 rb l d w h (by omega) (by omega) (expr N k) hes hel hek hone hm hw hc (by omega) (by omega) rfl
                simpa [restP, h3, h4] using this
    · have e : deepZ d z = z := by simp [deepZ]; omega
      have e2 : stmt N (k + 1) l z = ⟨st0, l, z⟩ := by unfold stmt; rw [if_neg hz]
      rw [e2]
      have := stmt_not rb l z d w h.pr (by rw [e]; exact hz)
      rw [e] at this
      exact this
end Go.Proofs.YtkmdamljhagogaaDoor
end
section
/- Names, gathered one by one. -/
namespace Go.Proofs.YtkmdamljhagogaaDoor
open Go.RowKit

theorem sizeNm : (Tryd.prog.info? 9).map (fun i => (i.zero, i.size, i.bytes)) = some (some (.string ⟨#[]⟩), 1, 16) := by kernel_rfl
--WALK
set_option maxHeartbeats 1000000 in
set_option maxRecDepth 20000 in
theorem clP (w0 : World) (rb : Nat) (w1 : World) (bp bx : Nat) (acc : List Bs) (l : Bs) (w : World)
    (hcp : w1.cell? ⟨bp, 0, none⟩ = some (.pointer (some ⟨rb, 0, none⟩))) (hbx : bx < w1.heap.size) (hrb : rb < w1.heap.size)
    (hne : bp ≠ rb ∧ bp ≠ bx ∧ bx ≠ rb) (hw0 : w0.heap.size ≤ bx ∧ w0.heap.size ≤ w1.heap.size) (hfz : w1.frozen? ⟨bx, 1, none⟩ = false)
    (hJ : JL w0 rb 9 1 encN NmOk w1 bx 1 acc l 0 w) :
    Calls Tryd.prog 22 #[.pointer (some ⟨bx, 0, none⟩), .pointer (some ⟨bp, 0, none⟩)] w fun e w' => e = .returned (.tuple #[]) ∧ JL w0 rb 9 1 encN NmOk w1 bx 1 (acc ++ [(name l 0).v]) (name l 0).l (name l 0).z w' := by
  obtain ⟨⟨va, vn, vc⟩, hx3, hrow⟩ := hJ.row
  obtain rfl : vn = acc.length := by
    obtain ⟨a, c, h⟩ := hrow.shape
    cases h; rfl
  have hlbp : bp < w1.heap.size := lt_of_cell hcp
  have a1 : w.cell? ⟨bp, 0, none⟩ = some (.pointer (some ⟨rb, 0, none⟩)) := (hJ.fr.cell (p := ⟨bp, 0, none⟩) hlbp (by show ¬ (bp = rb ∨ bp = bx); omega)).trans hcp
  have hsz1 := hJ.fr.size
  have l1 : bp < w.heap.size := by omega
  have l3 : bx < w.heap.size := by omega
  have fx : w.frozen? ⟨bx, 1, none⟩ = false := (hJ.fz 1).trans hfz
  have hacc : acc.length ≤ 1500 := by have := hJ.le rfl; omega
  have HC := hide (nameR_any rb l 0 w.drew hJ.pw.pr.drew hJ.pw.len)
  have HJ := hide hJ
  have HR := hide hrow
  have HL : Hid ((name l 0).z = 0 → (name l 0).l.length < l.length) := name_less l
  have HSM : Hid ((name l 0).l.length ≤ l.length) := name_small l 0
  clear hJ hcp hrow
  obtain ⟨j0, hj0, hy0, hy1, hy2⟩ := info_parts sizeNm
  have frame : ∀ w', Fr (at_ rb) w w' → w'.cell? ⟨bx, 1, none⟩ = some (.slice va acc.length vc) ∧ w'.cell? ⟨bp, 0, none⟩ = some (.pointer (some ⟨rb, 0, none⟩)) := fun w' hf =>
    ⟨(hf.cell (p := ⟨bx, 1, none⟩) l3 (by show ¬ bx = rb; omega)).trans hx3, (hf.cell (p := ⟨bp, 0, none⟩) l1 (by show ¬ bp = rb; omega)).trans a1⟩
  have HFR := hide frame
  clear frame
  go_enter Tryd.func22, Tryd.ntmps22
  refine wp_region_T (S := fun w' => w'.cell? ⟨bx, 1, none⟩ = some (.slice va acc.length vc) ∧ w'.cell? ⟨bp, 0, none⟩ = some (.pointer (some ⟨rb, 0, none⟩))) (by kernel_rfl) [7] ?_ (fun hHeld => ?_)
  · exact ⟨hx3, a1⟩
  refine wpAnyT_take (i := 0) (oi := { dst := some 2, op := Op.fieldAddr 43 (Operand.tmp 0) 1, type := 0, pos := "ref.go:472", after := #[], guard := none }) (v := ?v1) rfl (by kernel_rfl) (by kernel_rfl) (by kernel_rfl) (by kernel_rfl) (by kernel_rfl) (fun _ _ _ h => h) (Or.inl ⟨by rfl, ?hy1⟩) (by assumption) ?rest1
  case hy1 => (intro w hSw; (try dsimp only at hSw); obtain ⟨hS1, hS2⟩ := hSw; go_simp; try with_reducible rfl)
  try simp only [Act.put, List.setIfInBounds_toArray, List.set_cons_zero, List.set_cons_succ]
  refine wpAnyT_take (i := 1) (oi := { dst := some 3, op := Op.load 32 (Operand.tmp 2), type := 32, pos := "ref.go:472", after := #[{ on := 0, ground := Ground.data }], guard := none }) (v := ?v2) rfl (by kernel_rfl) (by kernel_rfl) (by kernel_rfl) (by kernel_rfl) (by kernel_rfl) (fun _ _ _ h => h) (Or.inl ⟨by rfl, ?hy2⟩) (by assumption) ?rest2
  case hy2 => (intro w hSw; (try dsimp only at hSw); obtain ⟨hS1, hS2⟩ := hSw; go_simp; try with_reducible rfl)
  try simp only [Act.put, List.setIfInBounds_toArray, List.set_cons_zero, List.set_cons_succ]
  refine wpAnyT_take (i := 2) (oi := { dst := some 4, op := Op.load 47 (Operand.tmp 1), type := 47, pos := "ref.go:472", after := #[], guard := none }) (v := ?v3) rfl (by kernel_rfl) (by kernel_rfl) (by kernel_rfl) (by kernel_rfl) (by kernel_rfl) (fun _ _ _ h => h) (Or.inl ⟨by rfl, ?hy3⟩) (by assumption) ?rest3
  case hy3 => (intro w hSw; (try dsimp only at hSw); obtain ⟨hS1, hS2⟩ := hSw; go_simp; try with_reducible rfl)
  try simp only [Act.put, List.setIfInBounds_toArray, List.set_cons_zero, List.set_cons_succ]
  refine wpAnyT_ready (rs := [3]) (by kernel_rfl) (by simp) ?_
  refine AllReadyT.cons (o := { dst := some 5, op := Op.call { callee := Callee.value (Operand.func 20), args := #[Operand.tmp 4], argTypes := #[47] }, type := 9, pos := "ref.go:472", after := #[{ on := 2, ground := Ground.data }], guard := none }) rfl (fun K hK => ?_) AllReadyT.nil
  refine step_call rfl 20 Tryd.f20 #[.tmp 4] #[47] rfl Tryd.func20 (by kernel_rfl) (by kernel_rfl) #[.pointer (some ⟨rb, 0, none⟩)] (by simp [Act.eval]) _ HC.out ?_
  rintro e w2 ⟨rfl, hP2, hF2⟩
  have F2 : Fr (at_ rb) w w2 := ((Fr.refl _ w).drew).trans hF2
  refine ⟨_, rfl, hK.out _ _ (HFR.out _ F2) ?_⟩
  clear hK K hHeld
  have hHeld := HFR.out _ F2
  try simp only [Act.put, List.setIfInBounds_toArray, List.set_cons_zero, List.set_cons_succ]
  refine wpAnyT_ready (rs := [4]) (by kernel_rfl) (by simp) ?_
  refine AllReadyT.cons (o := { dst := some 6, op := Op.buildSlice 32 1 #[(0, Operand.tmp 5)], type := 32, pos := "ref.go:472", after := #[{ on := 3, ground := Ground.data }], guard := none }) rfl (fun K hK => ?_) AllReadyT.nil
  go_simp
  refine hK.out _ _ (HFR.out _ (F2.alloc _)) ?_
  clear hK K hHeld
  have FA : Fr (at_ rb) w (w2.alloc (.cells #[.string (bs (name l 0).v)] 9)) := F2.alloc _
  have hHeld := HFR.out _ FA
  try simp only [Act.put, List.setIfInBounds_toArray, List.set_cons_zero, List.set_cons_succ]
  have PA : Pr rb (name l 0).l (name l 0).z (w2.alloc (.cells #[.string (bs (name l 0).v)] 9)) := hP2.fr ((Fr.refl nothing w2).alloc _) id
  have NW : ∀ j u, ([.string (bs (name l 0).v)] : List Value)[j]? = some u → (w2.alloc (.cells #[.string (bs (name l 0).v)] 9)).cell? ((⟨w2.heap.size, 0, none⟩ : Addr).add j) = some u := World.news_of_block (cs := #[.string (bs (name l 0).v)]) (t := 9) (fr := (0, 0)) (heap_new _ _)
  have PW : Pw w0 rb (name l 0).l (name l 0).z (w2.alloc (.cells #[.string (bs (name l 0).v)] 9)) := HJ.out.pw.of PA HSM.out FA
  obtain ⟨rs, hown, hbase, heach⟩ := HR.out
  have hownA : (w2.alloc (.cells #[.string (bs (name l 0).v)] 9)).ownsRow w1.heap.size 9 1 (.slice va acc.length vc) acc.length (rs.flatMap encN) := owns_fr hown FA (fun k hk e => by have := (hown.lt k hk).1; have : k = rb := e; omega)
  have hbA : w1.heap.size ≤ (w2.alloc (.cells #[.string (bs (name l 0).v)] 9)).heap.size := Nat.le_trans hsz1 FA.size
  have OF := owns_far hownA (b := bx) hbx
  have gx : bx < (w2.alloc (.cells #[.string (bs (name l 0).v)] 9)).heap.size := by omega
  have fxA : (w2.alloc (.cells #[.string (bs (name l 0).v)] 9)).frozen? ⟨bx, 1, none⟩ = false := (FA.frozen (p := ⟨bx, 1, none⟩) l3 (by show ¬ bx = rb; omega)).trans fx
  have HOA := hide hownA
  have HPW := hide PW
  have HFA := hide FA
  clear heach hown hownA PW FA PA
  refine wpAnyT_ready (rs := [5]) (by kernel_rfl) (by simp) ?_
  refine AllReadyT.cons (o := { dst := some 7, op := Op.call { callee := Callee.builtin Builtin.append, args := #[Operand.tmp 3, Operand.tmp 6], argTypes := #[32, 32] }, type := 32, pos := "ref.go:472", after := #[{ on := 1, ground := Ground.data }, { on := 4, ground := Ground.data }, { on := 3, ground := Ground.chain }], guard := none }) rfl (fun K hK => ?_) AllReadyT.nil
  refine step_append_lies _ (by rfl) (.tmp 3) (.tmp 6) 32 (by rfl) w1.heap.size 9 j0 _ 1 16 Tryd.underlying32 hj0 hy0 hy1 hy2 rfl (by decide) (.slice va acc.length vc) acc.length _ (by simp [Act.eval]) HOA.out ⟨w2.heap.size, 0, none⟩ 1 1 [.string (bs (name l 0).v)] (by simp [Act.eval]) rfl NW (by simp [Value.oneCell']) (by decide) (by unfold maxLen; omega) (by omega) hbA _ rfl ?_
  intro g cp w6 hr6 hg6 hat6 hlt6
  have k3 : w6.cell? ⟨bx, 1, none⟩ = some (.slice va acc.length vc) := (hg6.cell_far ⟨bx, 1, none⟩ gx OF).trans hHeld.1
  have kz : w6.frozen? ⟨bx, 1, none⟩ = false := (hg6.frozen_far ⟨bx, 1, none⟩ gx OF).trans fxA
  have k6 : bx < w6.heap.size := by have := hg6.size; omega
  have k4 : w6.cell? ⟨bp, 0, none⟩ = some (.pointer (some ⟨rb, 0, none⟩)) := (hg6.cell_far ⟨bp, 0, none⟩ (by show bp < _; omega) (owns_far HOA.out (b := bp) hlbp)).trans hHeld.2
  have HR6 := hide hr6
  have HG6 := hide hg6
  have HAT := hide hat6
  clear hr6 hg6 hat6 NW
  refine hK.out _ _ ⟨k3, k4⟩ ?_
  clear hK K hHeld
  have hHeld : w6.cell? ⟨bx, 1, none⟩ = some (.slice va acc.length vc) ∧ w6.cell? ⟨bp, 0, none⟩ = some (.pointer (some ⟨rb, 0, none⟩)) := ⟨k3, k4⟩
  try simp only [Act.put, List.setIfInBounds_toArray, List.set_cons_zero, List.set_cons_succ]
  refine wpAnyT_take (i := 6) (oi := { dst := some 8, op := Op.fieldAddr 43 (Operand.tmp 0) 1, type := 0, pos := "ref.go:472", after := #[{ on := 0, ground := Ground.phase }, { on := 1, ground := Ground.phase }, { on := 2, ground := Ground.phase }, { on := 3, ground := Ground.phase }, { on := 4, ground := Ground.phase }, { on := 5, ground := Ground.phase }], guard := none }) (v := ?v4) rfl (by kernel_rfl) (by kernel_rfl) (by kernel_rfl) (by kernel_rfl) (by kernel_rfl) (fun _ _ _ h => h) (Or.inl ⟨by rfl, ?hy4⟩) (by assumption) ?rest4
  case hy4 => (intro w hSw; (try dsimp only at hSw); obtain ⟨hS1, hS2⟩ := hSw; go_simp; try with_reducible rfl)
  try simp only [Act.put, List.setIfInBounds_toArray, List.set_cons_zero, List.set_cons_succ]
  refine wpAnyT_ready (rs := [7]) (by kernel_rfl) (by simp) ?_
  refine AllReadyT.last (o := { dst := none, op := Op.store 32 (Operand.tmp 8) (Operand.tmp 7), type := 0, pos := "ref.go:472", after := #[{ on := 6, ground := Ground.data }, { on := 5, ground := Ground.data }, { on := 5, ground := Ground.chain }, { on := 0, ground := Ground.phase }, { on := 1, ground := Ground.phase }, { on := 2, ground := Ground.phase }, { on := 3, ground := Ground.phase }, { on := 4, ground := Ground.phase }, { on := 5, ground := Ground.phase }], guard := none }) rfl (by kernel_rfl) (fun K hK => ?_) AllReadyT.nil
  go_simp
  refine hK.out _ _ ?_
  clear hK K
  try simp only [Act.put, List.setIfInBounds_toArray, List.set_cons_zero, List.set_cons_succ]
  refine wpAny_done (by kernel_rfl) ?_ _
  go_end0
  refine ⟨rfl, ?_⟩
  exact JL.push nm_stays encN_len hbx hrb hne.2.2 hw0 (r := (name l 0).v) (us := [.string (bs (name l 0).v)]) HJ.out HR.out HFA.out HPW.out rfl HL.out HOA.out HR6.out HG6.out HAT.out (Nat.le_refl _) rfl rfl k3 (.inr (.inr ⟨rfl, rfl⟩))
end Go.Proofs.YtkmdamljhagogaaDoor
end
