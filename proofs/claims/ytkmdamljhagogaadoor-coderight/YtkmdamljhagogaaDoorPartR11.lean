/- Parse; Spec; Elem; KSpec. -/
import Derived.Test.YtkmdamljhagogaaDoorPartR10
import Derived.Test.YtkmdamljhagogaaDoorPartR1
section
/- Programs as texts. -/
namespace Go.Proofs.YtkmdamljhagogaaDoor
open Go.RowKit

/-- A function whose list of names has room for them. -/
def FnOk2 (w : World) (P : Nat → Prop) (r : RawF) (f : Fn) : Prop := FnOk w P r f ∧ r.p.n ≤ r.p.c
theorem fn_stays2 : Stays FnOk2 := fun _ _ _ _ _ r x h hf hp hq => ⟨fn_stays _ _ _ _ _ r x h.1 hf hp hq, h.2⟩
theorem row_cap {ρ α : Type} {E sz : Nat} {enc : ρ → List Value} {ok : World → (Nat → Prop) → ρ → α → Prop} {base : Nat} {s : Slc} {l : List α} {w : World} (h : Row E sz enc ok base s.v l w) : s.n ≤ s.c := by
  obtain ⟨rs, ⟨_, h1⟩, _⟩ := h
  rcases h1 with ⟨h1, _⟩ | ⟨g, cap, cur, h1, _, _, h2, _⟩
  · simp only [Slc.v, Value.slice.injEq] at h1
    omega
  · simp only [Slc.v, Value.slice.injEq] at h1
    omega
def finP (q : Rd (List Fn)) : List Fn × Int := if q.z = 0 then (q.v, 0) else ([], q.z)
/-- What a text's functions are, or what is wrong. -/
def refParse (N n : Nat) (s : Bs) : List Fn × Int :=
  if 1500 < s.length then ([], 4) else finP (fnsP N n s 0)
def PPost (w : World) (res : List Fn × Int) (e : Ending) (w' : World) : Prop :=
  ∃ s : Slc, e = .returned (.tuple #[.slice s.a s.n s.c, .int .i64 res.2]) ∧ Fr nothing w w' ∧ s.n = res.1.length ∧ ∃ rs, Sl encG 3 w' s.v rs ∧ Each (FnOk2 w' (fun k => k < w'.heap.size)) rs res.1
theorem ppost_nil {w w' : World} (z : Int) (hf : Fr nothing w w') : PPost w ([], z) (.returned (.tuple #[.slice none 0 0, .int .i64 z])) w' :=
  ⟨nilS, rfl, hf, rfl, [], ⟨none, 0, rfl, by unfold maxLen; simp, fun i x h => by simp at h⟩, rfl, fun i r x h => by simp at h⟩
theorem sizeFn : (Tryd.prog.info? 43).map (fun i => (i.zero, i.size, i.bytes)) = some (some (.agg #[.string ⟨#[]⟩, .slice none 0 0, .slice none 0 0]), 3, 64) := by kernel_rfl
/-- A block of three cells. -/
structure B3 (b : Nat) (v0 v1 v2 : Value) (w : World) : Prop where
  c0 : w.cell? ⟨b, 0, none⟩ = some v0
  c1 : w.cell? ⟨b, 1, none⟩ = some v1
  c2 : w.cell? ⟨b, 2, none⟩ = some v2
  f : ∀ j, w.frozen? ⟨b, j, none⟩ = false
  lt : b < w.heap.size
theorem B3.fr {b : Nat} {v0 v1 v2 : Value} {w w' : World} {S : Nat → Prop} (h : B3 b v0 v1 v2 w) (hf : Fr S w w') (hs : ¬ S b) : B3 b v0 v1 v2 w' :=
  ⟨(hf.cell (p := ⟨b, 0, none⟩) h.lt hs).trans h.c0, (hf.cell (p := ⟨b, 1, none⟩) h.lt hs).trans h.c1, (hf.cell (p := ⟨b, 2, none⟩) h.lt hs).trans h.c2, fun j => (hf.frozen (p := ⟨b, j, none⟩) h.lt hs).trans (h.f j), Nat.lt_of_lt_of_le h.lt hf.size⟩
theorem B3.made (w : World) (v0 v1 v2 : Value) (t : TypeId) : B3 w.heap.size v0 v1 v2 (w.alloc (.cells #[v0, v1, v2] t)) := by
  have hn := made_cells (Fr.refl nothing (w.alloc (.cells #[v0, v1, v2] t))) id
  exact ⟨hn.1 0, hn.1 1, hn.1 2, hn.2.1, hn.2.2⟩
theorem each_names {w : World} {P : Nat → Prop} {rs xs : List Bs} (h : Each (NmOk w P) rs xs) : rs = xs := by
  apply List.ext_getElem? 
  intro i
  rcases Nat.lt_or_ge i rs.length with hi | hi
  · have h1 : rs[i]? = some rs[i] := List.getElem?_eq_getElem hi
    have h2 : xs[i]? = some (xs[i]'(h.1 ▸ hi)) := List.getElem?_eq_getElem _
    have := h.2 i _ _ h1 h2
    rw [h1, h2]
    exact congrArg some this
  · rw [List.getElem?_eq_none hi, List.getElem?_eq_none (h.1 ▸ hi)]
theorem fn_ok {w wu wv : World} {rb bf B : Nat} {nm : Bs} {ps : List Bs} {bd : List St} {w0 : World} {wm : World} {l : Bs} {z : Int} {sp st : Slc} (hJ : JL w0 rb 9 1 encN NmOk wm bf 1 ps l z wu) (hsp : wu.cell? ⟨bf, 1, none⟩ = some sp.v) (hF : Fr (at_ rb) wu wv)
    (hrb : rb < B) (hB : B ≤ wm.heap.size) (hbf : bf < wm.heap.size) (hL : GOk encS 5 StOk wu.heap.size wv st bd) (hw : Fr (fun k => k = bf) wv w) : FnOk2 w (fun k => B ≤ k ∧ k < w.heap.size) ⟨nm, sp, st⟩ ⟨nm, ps, bd⟩ := by
  obtain ⟨s', h1, h2⟩ := hJ.row
  have hsz := hJ.fr.size
  obtain rfl : s' = sp := by
    rw [h1] at hsp
    have e := Option.some.inj hsp
    obtain ⟨a, b, c⟩ := s'
    obtain ⟨a', b', c'⟩ := sp
    simp only [Value.slice.injEq] at e
    obtain ⟨rfl, rfl, rfl⟩ := e
    rfl
  have hcap := row_cap h2
  obtain ⟨rs, k1, k2, k3⟩ := h2.done nm_stays encN_len (B := wm.heap.size) (Nat.le_refl _)
  have hrs := each_names k3
  subst hrs
  have hG : GOk encN 1 NmOk wm.heap.size wu s' rs := ⟨rs, k1, k2, k3⟩
  obtain ⟨rs2, g1, g2, g3⟩ := ((hG.fr nm_stays hF (fun k e => by have : k = rb := e; omega)).fr nm_stays hw (fun k e => by omega)).since nm_stays hB
  have hrs2 := each_names g3
  subst hrs2
  have hsz2 := hF.size
  obtain ⟨rs3, q1, q2, q3⟩ := (hL.fr st_stays hw (fun k e => by omega)).since st_stays (B' := B) (by omega)
  exact ⟨⟨rfl, g1, g2, ⟨rs3, q1, q3⟩, q2⟩, hcap⟩
theorem fns_end (N : Nat) {m : Nat} (hm : 0 < m) {l : Bs} (hs : skip l = []) : fnsP N m l 0 = ⟨[], [], 0⟩ := by
  obtain ⟨k, rfl⟩ : ∃ k, m = k + 1 := ⟨m - 1, by omega⟩
  simp [fnsP, hs]
theorem fns_bad (N : Nat) {m : Nat} (l : Bs) {z : Int} (hz : z ≠ 0) : fnsP N m l z = ⟨[], l, z⟩ := by
  cases m with
  | zero => rfl
  | succ k => simp [fnsP, hz]
theorem fns_more (N k : Nat) {l : Bs} (hs : skip l ≠ []) : fnsP N (k + 1) l 0 = (fnsP N k (fn N (skip l) 0).l (fn N (skip l) 0).z).after [(fn N (skip l) 0).v] := by
  rw [fnsP]
  have : (skip l).isEmpty = false := by cases hk : skip l with
    | nil => exact absurd hk hs
    | cons a b => rfl
  simp only [if_true, this, Bool.false_eq_true, if_false]
  rfl
theorem peek_some {l : Bs} (h : l ≠ []) : ¬ ((peekC l).toNat : Int) = 0 := by
  cases l with
  | nil => exact absurd rfl h
  | cons c t =>
    intro e
    have e1 : (peekC (c :: t)).toNat = (0 : UInt8).toNat := by
      have : ((0 : UInt8).toNat : Int) = 0 := rfl
      omega
    exact peekC_ne (UInt8.toNat_inj.1 e1)
set_option maxHeartbeats 400000 in
theorem parse_long (s : Bs) (N n : Nat) (w : World) (hs : 1500 < s.length) (hmax : s.length ≤ 9223372036854775807) :
    Calls Tryd.prog 7 #[.string (bs s)] w (PPost w (refParse N n s)) := by
  have e : refParse N n s = ([], 4) := by simp [refParse, hs]
  rw [e]
  have hsz := bs_size s
  have h1 : (1500 : Int) < ((bs s).size : Int) := by rw [hsz]; omega
  clear e
  go_enter Tryd.func7, Tryd.ntmps7
  go_wp2
  go_ret2
  exact ppost_nil 4 (Fr.refl _ _)
theorem stmts0 (w0 : World) (rb N : Nat) (hN : 1502 ≤ N) (l : Bs) (z : Int) (w : World) (h : Pw w0 rb l z w) : Calls Tryd.prog 23 #[.pointer (some ⟨rb, 0, none⟩), .int .i64 0] w (LPost rb w (until_ (stmt N 11) N l z)) :=
  stmts_any w0 rb 0 (stmt N 11) N hN (stmt_less N 11) (stmt_small N 11) (by omega) (by omega) (fun l1 w1 h1 => stmt_any w0 rb N hN 11 0 l1 0 w1 (by omega) (by omega) h1) l z w h
set_option maxHeartbeats 1000000 in
set_option maxRecDepth 20000 in
theorem parse_short (s : Bs) (N n : Nat) (w : World) (hE : Er w) (hT : Tab w) (hs : s.length ≤ 1500) (hN : 1502 ≤ N) (hn : 1502 ≤ n) :
    Calls Tryd.prog 7 #[.string (bs s)] w (PPost w (refParse N n s)) := by
  have e : refParse N n s = finP (fnsP N n s 0) := by
    have : ¬ 1500 < s.length := by omega
    simp [refParse, this]
  rw [e]
  clear e
  have hsz := bs_size s
  have h1 : ¬ (1500 : Int) < ((bs s).size : Int) := by rw [hsz]; omega
  have h1' : ¬ (1500 : Int) < (s.length : Int) := by omega
  have hw1 : ∃ w1 : World, w1 = (w.alloc (.cells #[.string (bs s), .int .i64 0] 49)).alloc (.cells #[.pointer (some ⟨w.heap.size, 0, none⟩)] 47) := ⟨_, rfl⟩
  obtain ⟨w1, hw1⟩ := hw1
  have hFw : Fr nothing w w1 := by rw [hw1]; exact ((Fr.refl _ w).alloc _).alloc _
  have hs1 : w1.heap.size = w.heap.size + 1 + 1 := by rw [hw1]; simp
  have hP1 : Pw w w.heap.size s 0 w1 := by
    have hn := made_cells (Fr.refl nothing (w.alloc (.cells #[.string (bs s), .int .i64 0] 49))) id
    have hp : Pr w.heap.size s 0 (w.alloc (.cells #[.string (bs s), .int .i64 0] 49)) := ⟨hn.1 0, hn.1 1, hn.2.1 0, hn.2.1 1, hn.2.2⟩
    refine ⟨?_, hs, hFw.below (Nat.le_refl _) (fun k _ e => e), Nat.le_refl _, hT, hE⟩
    rw [hw1]
    exact hp.fr ((Fr.refl nothing _).alloc _) id
  have hbp : w1.cell? ⟨w.heap.size + 1, 0, none⟩ = some (.pointer (some ⟨w.heap.size, 0, none⟩)) := by
    rw [hw1, show w.heap.size + 1 = (w.alloc (.cells #[.string (bs s), .int .i64 0] 49)).heap.size by simp, World.cell?_alloc_new]
    rfl
  have HW1 := hide hw1
  have HFW := hide hFw
  have HP1 := hide hP1
  have HBP := hide hbp
  clear hw1 hFw hP1 hE hT hbp
  obtain ⟨j0, hj0, hy0, hy1, hy2⟩ := info_parts sizeFn
  go_enter Tryd.func7, Tryd.ntmps7
  go_wp2
  go_loopw [5] (fun v wr => ∃ (m : Nat) (ac : List Fn) (q : Bs) (zq : Int) (va : Option Addr) (vc : Nat), v = .slice va ac.length vc ∧ 0 < m ∧ Hid ((zq = 0 → q.length + 1 < m ∧ ac.length + q.length ≤ 1500) ∧ Pw w w.heap.size q zq wr ∧ Fr (at_ w.heap.size) w1 wr ∧ Row 43 3 encG FnOk2 w1.heap.size (.slice va ac.length vc) ac wr ∧ fnsP N n s 0 = (fnsP N m q zq).after ac)) (fun _ wr => leftOf wr w.heap.size)
  case atStart =>
    refine ⟨n, [], s, 0, none, 0, rfl, by omega, ?_⟩
    rw [← HW1.out]
    exact ⟨fun _ => ⟨by omega, by simpa using hs⟩, HP1.out, Fr.refl _ _, Row.nil _ (Nat.le_refl _), (after_nil _).symm⟩
  case round =>
    obtain ⟨m, ac, q, zq, va, vc, rfl, hm0, hR⟩ := hrel
    obtain ⟨hle, hPq, hFq, hrow, hfns⟩ := hR.out
    have hbpr : wr.cell? ⟨w.heap.size + 1, 0, none⟩ = some (.pointer (some ⟨w.heap.size, 0, none⟩)) := (hFq.cell (p := ⟨w.heap.size + 1, 0, none⟩) (by show w.heap.size + 1 < _; omega) (by show ¬ w.heap.size + 1 = w.heap.size; omega)).trans HBP.out
    have hszr := hFq.size
    have hbl : w.heap.size + 1 < wr.heap.size := by omega
    have hc1 := hPq.pr.e
    have hrl := hPq.pr.lt
    have HFQ := hide hFq
    by_cases hz : zq = 0
    · subst hz
      obtain ⟨hle1, hle2⟩ := hle rfl
      have HPK := hide (peek_any w.heap.size q 0 wr hPq.pr hPq.len)
      cases hsk : skip q with
      | nil =>
        rw [hsk, show ((peekC []).toNat : Int) = 0 from rfl] at HPK
        have hres : fnsP N n s 0 = ⟨ac, [], 0⟩ := by rw [hfns, fns_end N hm0 hsk]; simp [Rd.after]
        have HRES := hide hres
        have HROW := hide hrow
        clear hR hPq hFq hrow hfns hle hres
        go_wp2_with (go_at_call 18; refine HPK.out.mono ?_; rintro e w2 ⟨rfl, hp, hf⟩; have hbp2 := (hf.cell (p := ⟨w.heap.size + 1, 0, none⟩) hbl (by show ¬ w.heap.size + 1 = w.heap.size; omega)).trans hbpr; have hbl2 : w.heap.size + 1 < w2.heap.size := (Nat.lt_of_lt_of_le hbl hf.size); have hc2 := hp.e; have hrl2 := hp.lt; have HF2 := hide hf; clear hp hf)
        go_ret2
        rw [HRES.out]
        obtain ⟨rs, k1, k2, k3⟩ := (HROW.out.fr fn_stays2 HF2.out (fun k e => by have : k = w.heap.size := e; omega)).done fn_stays2 encG_len (B := 0) (Nat.zero_le _)
        refine ⟨⟨va, ac.length, vc⟩, rfl, (HFW.out.then HFQ.out (fun j hj e => by have : j = w.heap.size := e; omega)).then HF2.out (fun j hj e => by have : j = w.heap.size := e; omega), rfl, rs, k1, k3.1, fun i r x h1 h2 => fn_stays2 _ _ nothing _ _ r x (k3.2 i r x h1 h2) (Fr.refl _ _) (fun _ _ => id) (fun _ hk => hk.2)⟩
      | cons c0 t0 =>
        have hskne : skip q ≠ [] := by rw [hsk]; simp
        obtain ⟨m, rfl⟩ : ∃ k, m = k + 1 := ⟨m - 1, by omega⟩
        have HMO := hide (fns_more N m hskne)
        have n0 := peek_some hskne
        have b0 := ne_bne n0
        have hkl := skip_len q
        clear hsk
        obtain ⟨a1, ha1⟩ : ∃ a, must 40 (skip q) 0 = a := ⟨_, rfl⟩
        obtain ⟨t1, ht1⟩ : ∃ a, name a1.l a1.z = a := ⟨_, rfl⟩
        obtain ⟨a2, ha2⟩ : ∃ a, must 40 t1.l t1.z = a := ⟨_, rfl⟩
        obtain ⟨p1, hp1⟩ : ∃ a, until_ name N a2.l a2.z = a := ⟨_, rfl⟩
        obtain ⟨s1, hs1'⟩ : ∃ a, until_ (stmt N 11) N p1.l p1.z = a := ⟨_, rfl⟩
        have hfn : fn N (skip q) 0 = ⟨⟨t1.v, p1.v, s1.v⟩, s1.l, s1.z⟩ := by
          unfold fn
          simp only [ha1, ht1, ha2, hp1, hs1']
        have hql := hPq.len
        have g1 : a1.l.length ≤ (skip q).length := ha1 ▸ must_small 40 (skip q) 0
        have g2 : t1.l.length ≤ a1.l.length := ht1 ▸ name_small a1.l a1.z
        have g3 : a2.l.length ≤ t1.l.length := ha2 ▸ must_small 40 t1.l t1.z
        have g4 : p1.l.length ≤ a2.l.length := hp1 ▸ until_small name_small N a2.l a2.z
        have g5 : s1.l.length ≤ p1.l.length := hs1' ▸ until_small (stmt_small N 11) N p1.l p1.z
        have g6 : s1.z = 0 → s1.l.length < (skip q).length := fun h0 => by
          have := fn_less N (skip q) (by rw [hfn]; exact h0)
          rw [hfn] at this
          exact this
        rw [hfn] at HMO
        have M1 : Hid (∀ w', Pr w.heap.size (skip q) 0 w' → Calls Tryd.prog 19 #[.pointer (some ⟨w.heap.size, 0, none⟩), .int .u8 40] w' fun r w'' => r = .returned (.tuple #[]) ∧ Pr w.heap.size a1.l a1.z w'' ∧ Fr (at_ w.heap.size) w' w'') := fun w' hp => ha1 ▸ must_any w.heap.size (skip q) 0 40 w' hp (by omega) (by decide)
        have NM : Hid (∀ w', Pr w.heap.size a1.l a1.z w' → Calls Tryd.prog 20 #[.pointer (some ⟨w.heap.size, 0, none⟩)] w' fun e w'' => e = .returned (.string (bs t1.v)) ∧ Pr w.heap.size t1.l t1.z w'' ∧ Fr (at_ w.heap.size) w' w'') := fun w' hp => ht1 ▸ nameR_any w.heap.size a1.l a1.z w' hp (by omega)
        have M2 : Hid (∀ w', Pr w.heap.size t1.l t1.z w' → Calls Tryd.prog 19 #[.pointer (some ⟨w.heap.size, 0, none⟩), .int .u8 40] w' fun r w'' => r = .returned (.tuple #[]) ∧ Pr w.heap.size a2.l a2.z w'' ∧ Fr (at_ w.heap.size) w' w'') := fun w' hp => ha2 ▸ must_any w.heap.size t1.l t1.z 40 w' hp (by omega) (by decide)
        have UP : Hid (∀ wm bf, Pw w w.heap.size a2.l a2.z wm → B3 bf (.string (bs t1.v)) (.slice none 0 0) (.slice none 0 0) wm → wm.cell? ⟨w.heap.size + 1, 0, none⟩ = some (.pointer (some ⟨w.heap.size, 0, none⟩)) → w.heap.size + 1 < bf → Calls Tryd.prog 21 #[.pointer (some ⟨w.heap.size, 0, none⟩), .func (.func 22) #[] #[.pointer (some ⟨bf, 0, none⟩), .pointer (some ⟨w.heap.size + 1, 0, none⟩)]] wm
            fun e w' => e = .returned (.tuple #[]) ∧ JL w w.heap.size 9 1 encN NmOk wm bf 1 p1.v p1.l p1.z w') := fun wm bf hp hb hc hlt => by
          have hJ0 : JL w w.heap.size 9 1 encN NmOk wm bf 1 [] a2.l a2.z wm :=
            { pw := hp, fr := Fr.refl _ _, fz := fun _ => rfl, old := fun _ _ => rfl, le := fun _ => by have := hp.len; simpa using this, row := ⟨nilS, hb.c1, Row.nil _ (Nat.le_refl _)⟩ }
          have := until_P w.heap.size _ _ name (JL w w.heap.size 9 1 encN NmOk wm bf 1) name_less name_small (fun acc l z w h => ⟨h.pw.pr, h.pw.len⟩)
            (fun acc l l' z z' w' w'' h hp' hl hz hf => h.move nm_stays hb.lt hp.pr.lt (by omega) hp' hl hz hf)
            (fun acc l w' h => clP w w.heap.size wm (w.heap.size + 1) bf acc l w' hc hb.lt hp.pr.lt ⟨by omega, by omega, by omega⟩ ⟨by omega, hp.bel.size⟩ (hb.f 1) h)
            N [] a2.l a2.z wm hJ0 (by omega) (fun _ => by have := hp.len; omega)
          rw [hp1] at this
          exact this
        have SS : Hid (∀ w', Pw w w.heap.size p1.l p1.z w' → Calls Tryd.prog 23 #[.pointer (some ⟨w.heap.size, 0, none⟩), .int .i64 0] w' (LPost w.heap.size w' s1)) := fun w' hp => by
          have := stmts0 w w.heap.size N hN p1.l p1.z w' hp
          rw [hs1'] at this
          exact this
        have HPQ := hide hPq
        have HROW := hide hrow
        have HFNS := hide hfns
        clear hR hPq hFq hrow hfns hle ha1 ht1 ha2 hp1 hs1' hfn
        go_wp2_with (first
          | (go_at_call 18; refine HPK.out.mono ?_; rintro e w2 ⟨rfl, hp, hf⟩; have hbp2 := (hf.cell (p := ⟨w.heap.size + 1, 0, none⟩) hbl (by show ¬ w.heap.size + 1 = w.heap.size; omega)).trans hbpr; have hbl2 : w.heap.size + 1 < w2.heap.size := (Nat.lt_of_lt_of_le hbl hf.size); have HP2 := hide hp; have HF2 := hide hf; clear hp hf hbpr)
          | (go_at_call 19; first
              | (refine (M2.out _ HP5.out).mono ?_; rintro e w6 ⟨rfl, hp, hf⟩; have hbp6 := (hf.cell (p := ⟨w.heap.size + 1, 0, none⟩) (by show w.heap.size + 1 < _; omega) (by show ¬ w.heap.size + 1 = w.heap.size; omega)).trans hbp5; have hbl6 : w.heap.size + 1 < w6.heap.size := (Nat.lt_of_lt_of_le hbl5 hf.size); have HF6 := hide (HF5.out.trans hf); have HB6 := hide (HB5.out.fr hf (by show ¬ w4.heap.size = w.heap.size; omega)); have PW6 := hide (HPQ.out.of hp (by omega) HF6.out); clear hp hf hbp5)
              | (refine (M1.out _ HP2.out).mono ?_; rintro e w3 ⟨rfl, hp, hf⟩; have hbp3 := (hf.cell (p := ⟨w.heap.size + 1, 0, none⟩) hbl2 (by show ¬ w.heap.size + 1 = w.heap.size; omega)).trans hbp2; have hbl3 : w.heap.size + 1 < w3.heap.size := (Nat.lt_of_lt_of_le hbl2 hf.size); have HF3 := hide (HF2.out.trans hf); have HP3 := hide hp; clear hp hf hbp2))
          | (go_at_call 20; refine (NM.out _ HP3.out).mono ?_; rintro e w4 ⟨rfl, hp, hf⟩; have hbl4 : w.heap.size + 1 < w4.heap.size := (Nat.lt_of_lt_of_le hbl3 hf.size); have hz4 : wr.heap.size ≤ w4.heap.size := ((HF3.out.trans hf).size); have hbp4 := (hf.cell (p := ⟨w.heap.size + 1, 0, none⟩) hbl3 (by show ¬ w.heap.size + 1 = w.heap.size; omega)).trans hbp3; have hbp5 : (w4.alloc (.cells #[.string (bs t1.v), .slice none 0 0, .slice none 0 0] 43)).cell? ⟨w.heap.size + 1, 0, none⟩ = some (.pointer (some ⟨w.heap.size, 0, none⟩)) := (World.cell?_alloc_past _ _ _ hbl4).trans hbp4; have hbl5 : w.heap.size + 1 < (w4.alloc (.cells #[.string (bs t1.v), .slice none 0 0, .slice none 0 0] 43)).heap.size := (by simp; omega); have HB5 := hide (B3.made w4 (.string (bs t1.v)) (.slice none 0 0) (.slice none 0 0) 43); have HF5 := hide ((HF3.out.trans hf).alloc (.cells #[.string (bs t1.v), .slice none 0 0, .slice none 0 0] 43)); have HP5 := hide (hp.fr ((Fr.refl nothing w4).alloc (.cells #[.string (bs t1.v), .slice none 0 0, .slice none 0 0] 43)) id); clear hp hf hbp3)
          | (go_at_call 21; refine (UP.out _ w4.heap.size PW6.out HB6.out hbp6 hbl4).mono ?_; rintro e w7 ⟨rfl, hj⟩; have hbp7 := (hj.fr.cell (p := ⟨w.heap.size + 1, 0, none⟩) hbl6 (by show ¬ (w.heap.size + 1 = w.heap.size ∨ w.heap.size + 1 = w4.heap.size); omega)).trans hbp6; have hbl7 : w.heap.size + 1 < w7.heap.size := (Nat.lt_of_lt_of_le hbl6 hj.fr.size); obtain ⟨sp, hsp, -⟩ := hj.row; have hB7 : B3 w4.heap.size (.string (bs t1.v)) (.slice sp.a sp.n sp.c) (.slice none 0 0) w7 := ⟨(hj.old 0 (by decide)).trans HB6.out.c0, hsp, (hj.old 2 (by decide)).trans HB6.out.c2, fun j => (hj.fz j).trans (HB6.out.f j), Nat.lt_of_lt_of_le HB6.out.lt hj.fr.size⟩; have HJ7 := hide hj; have HB7 := hide hB7; have HSP := hide hsp; clear hj hB7 hbp6 hsp)
          | (go_at_call 23; refine (SS.out _ HJ7.out.pw).mono ?_; rintro e w8 ⟨st, rfl, hf, hp, hn8, hls⟩; have hB8 := HB7.out.fr hf (by show ¬ w4.heap.size = w.heap.size; omega); have HB8 := hide hB8; obtain ⟨x0, x1, x2, xf, xl⟩ := hB8; have xf2 := xf 2; have HF8 := hide hf; have HP8 := hide hp; have HL8 : Hid (GOk encS 5 StOk w7.heap.size w8 st s1.v) := hls; have hbp8 := (hf.cell (p := ⟨w.heap.size + 1, 0, none⟩) hbl7 (by show ¬ w.heap.size + 1 = w.heap.size; omega)).trans hbp7; have hbl8 : w.heap.size + 1 < w8.heap.size := (Nat.lt_of_lt_of_le hbl7 hf.size); have F7 : Fr (at_ w.heap.size) wr w7 := (HF6.out.then HJ7.out.fr (fun j hj e => by rcases e with e | e; exact e; omega)); have FS := hide ((F7.trans hf).setCell (p := ⟨w4.heap.size, 2, none⟩) (.inr hz4) (.slice st.a st.n st.c)); have FA := hide (FS.out.alloc (.cells #[.string (bs t1.v), .slice sp.a sp.n sp.c, .slice st.a st.n st.c] 43)); obtain ⟨rs, hown, -, -⟩ := HROW.out; have hownA := (owns_fr hown FA.out (fun k hk e => by have := (hown.lt k hk).1; have : k = w.heap.size := e; omega)); have HOA := hide hownA; have hbA : w1.heap.size ≤ ((w8.setCell ⟨w4.heap.size, 2, none⟩ (.slice st.a st.n st.c)).alloc (.cells #[.string (bs t1.v), .slice sp.a sp.n sp.c, .slice st.a st.n st.c] 43)).heap.size := (Nat.le_trans hszr FA.out.size); have NW : Hid (∀ j u, (encG ⟨t1.v, sp, st⟩)[j]? = some u → ((w8.setCell ⟨w4.heap.size, 2, none⟩ (.slice st.a st.n st.c)).alloc (.cells #[.string (bs t1.v), .slice sp.a sp.n sp.c, .slice st.a st.n st.c] 43)).cell? ((⟨w8.heap.size, 0, none⟩ : Addr).add j) = some u) := (by have := World.news_of_block (cs := #[.string (bs t1.v), .slice sp.a sp.n sp.c, .slice st.a st.n st.c]) (t := 43) (fr := (0, 0)) (heap_new (w8.setCell ⟨w4.heap.size, 2, none⟩ (.slice st.a st.n st.c)) (.cells #[.string (bs t1.v), .slice sp.a sp.n sp.c, .slice st.a st.n st.c] 43)); rw [show (w8.setCell ⟨w4.heap.size, 2, none⟩ (.slice st.a st.n st.c)).heap.size = w8.heap.size by simp [World.setCell]] at this; exact this); have hac : ac.length ≤ 1500 := (by omega); clear hf hp hls hbp7 xf hn8 hown hownA F7)
          | (at_builtin; go_must (refine wpList_append_lies _ rfl _ _ 22 rfl w1.heap.size 43 j0 _ 3 64 Tryd.underlying22 hj0 hy0 hy1 hy2 rfl (by decide) (.slice va ac.length vc) ac.length _ rfl HOA.out ⟨w8.heap.size, 0, none⟩ 1 1 (encG ⟨t1.v, sp, st⟩) rfl rfl NW.out (by simp [encG, Value.oneCell']) (by decide) (by unfold maxLen; omega) (by omega) hbA _ rfl ?_); intro g cp w9 hr9 hg9 hat9 hlt9))
        have hfnA : FnOk2 ((w8.setCell ⟨w4.heap.size, 2, none⟩ (.slice st.a st.n st.c)).alloc (.cells #[.string (bs t1.v), .slice sp.a sp.n sp.c, .slice st.a st.n st.c] 43)) (fun k => wr.heap.size ≤ k ∧ k < ((w8.setCell ⟨w4.heap.size, 2, none⟩ (.slice st.a st.n st.c)).alloc (.cells #[.string (bs t1.v), .slice sp.a sp.n sp.c, .slice st.a st.n st.c] 43)).heap.size) ⟨t1.v, sp, st⟩ ⟨t1.v, p1.v, s1.v⟩ := by
          have h1 := fn_ok (nm := t1.v) (B := wr.heap.size) HJ7.out HSP.out HF8.out (by omega) (by have := HF6.out.size; omega) HB6.out.lt HL8.out ((Fr.refl (fun k => k = w4.heap.size) w8).setCell (p := ⟨w4.heap.size, 2, none⟩) (.inl rfl) (.slice st.a st.n st.c))
          exact fn_stays2 _ _ nothing _ _ _ _ h1 ((Fr.refl nothing _).alloc _) (fun _ _ => id) (fun k hk => ⟨hk.1, by have := hk.2; simp [World.setCell] at this ⊢; omega⟩)
        have hPA : Pr w.heap.size s1.l s1.z ((w8.setCell ⟨w4.heap.size, 2, none⟩ (.slice st.a st.n st.c)).alloc (.cells #[.string (bs t1.v), .slice sp.a sp.n sp.c, .slice st.a st.n st.c] 43)) := (HP8.out.fr ((Fr.refl (fun k => k = w4.heap.size) w8).setCell (p := ⟨w4.heap.size, 2, none⟩) (.inl rfl) (.slice st.a st.n st.c)) (by show ¬ w.heap.size = w4.heap.size; omega)).fr ((Fr.refl nothing _).alloc _) id
        have hF9 : Fr (fun k => (Value.slice va ac.length vc).ownBlock = some k) ((w8.setCell ⟨w4.heap.size, 2, none⟩ (.slice st.a st.n st.c)).alloc (.cells #[.string (bs t1.v), .slice sp.a sp.n sp.c, .slice st.a st.n st.c] 43)) w9 := (Fr.refl _ _).grown hg9 (fun k hk => .inl hk)
        have hown9 : ∀ k, (Value.slice va ac.length vc).ownBlock = some k → w1.heap.size ≤ k := fun k hk => (HOA.out.lt k hk).1
        have hP9 : Pr w.heap.size s1.l s1.z w9 := hPA.fr hF9 (fun e => by have := hown9 _ e; omega)
        have hFr9 : Fr (at_ w.heap.size) w1 w9 := (HFQ.out.trans FA.out).then hF9 (fun j hj e => by have := hown9 _ e; omega)
        have hrow9 : Row 43 3 encG FnOk2 w1.heap.size (.slice (some ⟨g, 0, none⟩) (ac.length + 1) cp) (ac ++ [⟨t1.v, p1.v, s1.v⟩]) w9 :=
          HROW.out.push fn_stays2 FA.out (fun k e => by have : k = w.heap.size := e; omega) (Nat.le_refl _) hfnA hF9 (fun k e => .inr e) (fun rs2 hrs => by
            have h2 : ((w8.setCell ⟨w4.heap.size, 2, none⟩ (.slice st.a st.n st.c)).alloc (.cells #[.string (bs t1.v), .slice sp.a sp.n sp.c, .slice st.a st.n st.c] 43)).ownsRow w1.heap.size 43 3 (.slice va ac.length vc) ac.length (rs2.flatMap encG) := owns_fr hrs FA.out (fun k hk e => by have := (hrs.lt k hk).1; have : k = w.heap.size := e; omega)
            rw [owns_same h2 HOA.out]
            exact hr9) (by
            rcases hat9 with e | e
            · exact .inl e.symm
            · exact .inr ⟨g, rfl, by omega⟩)
        have hP9w : Pw w w.heap.size s1.l s1.z w9 := ⟨hP9, by omega, (HFW.out.then hFr9 (fun j hj e => by have : j = w.heap.size := e; omega)).below (Nat.le_refl _) (fun k _ e => e), Nat.le_refl _, HPQ.out.tab, HPQ.out.er⟩
        refine ⟨⟨m, ac ++ [⟨t1.v, p1.v, s1.v⟩], s1.l, s1.z, some ⟨g, 0, none⟩, cp, by simp, by omega, fun h0 => ?_, hP9w, hFr9, by simpa using hrow9, ?_⟩, ?_⟩
        · have := g6 h0
          simp
          omega
        · rw [HFNS.out, HMO.out, after_after]
        · rw [HPQ.out.pr.leftOf0]
          by_cases h0 : s1.z = 0
          · have := g6 h0
            rw [h0] at hP9
            rw [hP9.leftOf0]
            omega
          · rw [hP9.leftOf1 h0]
            omega
    · have hres : fnsP N n s 0 = ⟨ac, q, zq⟩ := by rw [hfns, fns_bad N q hz]; simp [Rd.after]
      have HRES := hide hres
      have hz1 : (zq == 0) = false := by simpa using hz
      have hz2 := ne_bne hz
      clear hR hPq hFq hrow hfns hle hres
      go_wp2_with fail
      go_region
      all_goals go_wp2
      all_goals go_ret2
      all_goals rw [HRES.out, show finP ⟨ac, q, zq⟩ = ([], zq) by simp [finP, hz]]
      all_goals exact ppost_nil zq (HFW.out.then HFQ.out (fun j hj e => by have : j = w.heap.size := e; omega)).drew
end Go.Proofs.YtkmdamljhagogaaDoor
end
section
/- What is wrong with the names of functions; what the functions of a text look like (no program). -/
namespace Go.Proofs.YtkmdamljhagogaaDoor

/-- Texts, each counted once. -/
structure WS where
  f : Bs → Bool
  n : Nat
def WS.empty : WS := ⟨fun _ => false, 0⟩
def WS.add (W : WS) (k : Bs) : WS := ⟨fun x => decide (x = k) || W.f x, if W.f k then W.n else W.n + 1⟩
theorem WS.add_le (W : WS) (k : Bs) : (W.add k).n ≤ W.n + 1 := by unfold WS.add; dsimp only; split <;> omega
theorem WS.le_add (W : WS) (k : Bs) : W.n ≤ (W.add k).n := by unfold WS.add; dsimp only; split <;> omega

/-- What is wrong with an expression itself. -/
def exE (F : Bs → Option Int) (nm : List Bs) (k : Int) (t : Bs) (n : Nat) : Int :=
  if k = 3 then (if nm.contains t then 0 else 6)
  else if k = 11 then (match F t with | none => 6 | some m => if m = n then 0 else 5)
  else 0
def exW (k : Int) (t : Bs) (W : WS) : WS := if k = 2 then W.add t else W
structure EW where
  e : Int
  W : WS
def EW.or (r : EW) (g : WS → EW) : EW := if r.e = 0 then g r.W else r
mutual
def exC (F : Bs → Option Int) (nm : List Bs) : Ex → WS → EW
  | .mk k _ t a => fun W => EW.or ⟨exE F nm k t a.length, exW k t W⟩ (exsC F nm a)
def exsC (F : Bs → Option Int) (nm : List Bs) : List Ex → WS → EW
  | [] => fun W => ⟨0, W⟩
  | x :: l => fun W => (exC F nm x W).or (exsC F nm l)
end
mutual
def exN : Ex → Nat
  | .mk _ _ _ a => 1 + exsN a
def exsN : List Ex → Nat
  | [] => 0
  | x :: l => exN x + exsN l
end
/-- What is wrong, which names are there then, how many variables, and the texts. -/
structure CR where
  e : Int
  nm : List Bs
  v : Int
  W : WS
def CR.or (r : CR) (g : CR → CR) : CR := if r.e = 0 then g r else r
def stE (nm : List Bs) (v : Int) (k : Int) (t : Bs) : Int :=
  if k = 1 then (if nm.contains t then 7 else if 8 ≤ v then 4 else 0)
  else if k = 2 then (if nm.contains t then 0 else 6) else 0
def stN1 (nm : List Bs) (k : Int) (t : Bs) : List Bs := if k = 1 then nm ++ [t] else nm
def stV1 (v : Int) (k : Int) : Int := if k = 1 then v + 1 else v
mutual
def stC (F : Bs → Option Int) : St → List Bs → Int → WS → CR
  | .mk k t a x y => fun nm v W =>
    CR.or ⟨(exsC F nm a W).e, nm, v, (exsC F nm a W).W⟩ fun r =>
    CR.or ⟨stE nm v k t, stN1 nm k t, stV1 v k, r.W⟩ fun r =>
    CR.or (stsC F x r.nm r.v r.W) fun r2 =>
    CR.or (stsC F y r.nm r2.v r2.W) fun r3 => ⟨0, r.nm, r3.v, r3.W⟩
def stsC (F : Bs → Option Int) : List St → List Bs → Int → WS → CR
  | [] => fun nm v W => ⟨0, nm, v, W⟩
  | s :: l => fun nm v W => (stC F s nm v W).or fun r => stsC F l r.nm r.v r.W
end
mutual
def stN : St → Nat
  | .mk _ _ a x y => 1 + exsN a + stsN x + stsN y
def stsN : List St → Nat
  | [] => 0
  | s :: l => stN s + stsN l
end
/-- A function's head. -/
def dup : List Bs → Bool
  | [] => false
  | x :: l => l.contains x || dup l
def headsC : List Fn → (Bs → Option Int) → Int × (Bs → Option Int)
  | [], F => (0, F)
  | f :: l, F => if (F f.t).isSome || dup f.p then (7, F) else if 4 < f.p.length then (5, F) else headsC l (fun x => if x = f.t then some f.p.length else F x)
def bodiesC (F : Bs → Option Int) : List Fn → WS → EW
  | [], W => ⟨0, W⟩
  | f :: l, W => EW.or ⟨(stsC F f.b f.p f.p.length W).e, (stsC F f.b f.p f.p.length W).W⟩ (bodiesC F l)
def firstP (l : List Fn) : Nat := match l with | [] => 0 | f :: _ => f.p.length
def checkC (l : List Fn) : Int :=
  if l.length = 0 ∨ 5 < l.length then 5
  else if (headsC l (fun _ => none)).1 ≠ 0 then (headsC l (fun _ => none)).1
  else if firstP l ≠ 0 then 10
  else if (bodiesC (headsC l (fun _ => none)).2 l WS.empty).e ≠ 0 then (bodiesC (headsC l (fun _ => none)).2 l WS.empty).e
  else if 16 < (bodiesC (headsC l (fun _ => none)).2 l WS.empty).W.n then 4 else 0

/-- What the expressions and statements of a text look like. -/
inductive ExSh : Ex → Prop
  | mk {k n : Int} {t : Bs} {a : List Ex} (h1 : k = 1 ∨ k = 2 ∨ k = 3 ∨ k = 9 → a = []) (h2 : t.length ≤ 1500) (h3 : ∀ x ∈ a, ExSh x) : ExSh (.mk k n t a)
inductive StSh : St → Prop
  | mk {k : Int} {t : Bs} {a : List Ex} {x y : List St} (h1 : k ≠ 3 → k ≠ 4 → x = []) (h2 : k ≠ 3 → y = []) (h3 : t.length ≤ 1500) (h4 : ∀ e ∈ a, ExSh e) (h5 : ∀ s ∈ x, StSh s) (h6 : ∀ s ∈ y, StSh s) : StSh (.mk k t a x y)
structure FnSh (f : Fn) : Prop where
  t : f.t.length ≤ 1500
  p : ∀ s ∈ f.p, s.length ≤ 1500
  b : ∀ s ∈ f.b, StSh s
def fnsN (l : List Fn) : Nat := (l.map fun f => f.p.length + stsN f.b).sum

/- The texts grow by at most what is looked at. -/
theorem EW.or_le {r : EW} {g : WS → EW} {a b : Nat} (h1 : r.W.n ≤ a) (h2 : ∀ W : WS, W.n ≤ a → (g W).W.n ≤ a + b) : (r.or g).W.n ≤ a + b := by
  unfold EW.or
  split
  · exact h2 _ h1
  · omega
mutual
theorem exC_le (F : Bs → Option Int) (nm : List Bs) : ∀ (x : Ex) (W : WS), (exC F nm x W).W.n ≤ W.n + exN x
  | .mk k n t a, W => by
    unfold exC exN
    have h1 : (exW k t W).n ≤ W.n + 1 := by
      unfold exW; split
      · exact W.add_le t
      · omega
    have := EW.or_le (r := ⟨exE F nm k t a.length, exW k t W⟩) (g := exsC F nm a) (a := W.n + 1) (b := exsN a) h1 (fun W' h => by have := exsC_le F nm a W'; omega)
    omega
theorem exsC_le (F : Bs → Option Int) (nm : List Bs) : ∀ (l : List Ex) (W : WS), (exsC F nm l W).W.n ≤ W.n + exsN l
  | [], W => by simp [exsC, exsN]
  | x :: l, W => by
    unfold exsC exsN
    have h1 := exC_le F nm x W
    have := EW.or_le (r := exC F nm x W) (g := exsC F nm l) (a := W.n + exN x) (b := exsN l) h1 (fun W' h => by have := exsC_le F nm l W'; omega)
    omega
end
theorem CR.or_le {r : CR} {g : CR → CR} {a b : Nat} (h1 : r.W.n ≤ a) (h2 : ∀ R : CR, R.W.n ≤ a → (g R).W.n ≤ a + b) : (r.or g).W.n ≤ a + b := by
  unfold CR.or
  split
  · exact h2 _ h1
  · omega
mutual
theorem stC_le (F : Bs → Option Int) : ∀ (s : St) (nm : List Bs) (v : Int) (W : WS), (stC F s nm v W).W.n ≤ W.n + stN s
  | .mk k t a x y, nm, v, W => by
    unfold stC stN
    have h1 := exsC_le F nm a W
    refine Nat.le_trans (CR.or_le (a := W.n + exsN a) (b := stsN x + stsN y) h1 fun R hR => ?_) (by omega)
    refine Nat.le_trans (CR.or_le (a := W.n + exsN a) (b := stsN x + stsN y) hR fun R2 hR2 => ?_) (by omega)
    have h2 := stsC_le F x R2.nm R2.v R2.W
    refine Nat.le_trans (CR.or_le (a := W.n + exsN a + stsN x) (b := stsN y) (by omega) fun R3 hR3 => ?_) (by omega)
    have h3 := stsC_le F y R2.nm R3.v R3.W
    refine Nat.le_trans (CR.or_le (a := W.n + exsN a + stsN x + stsN y) (b := 0) (by omega) fun R4 hR4 => ?_) (by omega)
    exact Nat.le_trans hR4 (by omega)
theorem stsC_le (F : Bs → Option Int) : ∀ (l : List St) (nm : List Bs) (v : Int) (W : WS), (stsC F l nm v W).W.n ≤ W.n + stsN l
  | [], nm, v, W => by simp [stsC, stsN]
  | s :: l, nm, v, W => by
    unfold stsC stsN
    have h1 := stC_le F s nm v W
    refine Nat.le_trans (CR.or_le (a := W.n + stN s) (b := stsN l) h1 fun R hR => ?_) (by omega)
    have h2 := stsC_le F l R.nm R.v R.W
    omega
end
mutual
theorem stC_v (F : Bs → Option Int) : ∀ (s : St) (nm : List Bs) (v : Int) (W : WS), 0 ≤ v → v ≤ 8 → (stC F s nm v W).e = 0 → 0 ≤ (stC F s nm v W).v ∧ (stC F s nm v W).v ≤ 8
  | .mk k t a x y, nm, v, W => by
    intro h0 h8
    rw [stC]
    simp only
    unfold CR.or
    split
    · dsimp only
      split
      · rename_i hs
        try dsimp only at hs
        have hv : 0 ≤ stV1 v k ∧ stV1 v k ≤ 8 := by
          unfold stV1; split
          · rename_i hk
            have : ¬ 8 ≤ v := by
              intro h
              unfold stE at hs
              rw [if_pos hk] at hs
              by_cases hc : nm.contains t = true
              · rw [if_pos hc] at hs; cases hs
              · rw [if_neg hc, if_pos h] at hs; cases hs
            omega
          · omega
        split
        · rename_i hx
          have h2 := stsC_v F x (stN1 nm k t) (stV1 v k) (exsC F nm a W).W hv.1 hv.2 hx
          split
          · rename_i hy
            intro _
            exact stsC_v F y (stN1 nm k t) _ _ h2.1 h2.2 hy
          · rename_i hy; intro h; exact absurd h hy
        · rename_i hx; intro h; exact absurd h hx
      · rename_i hs; intro h; exact absurd h hs
    · rename_i he; intro h; exact absurd h he
theorem stsC_v (F : Bs → Option Int) : ∀ (l : List St) (nm : List Bs) (v : Int) (W : WS), 0 ≤ v → v ≤ 8 → (stsC F l nm v W).e = 0 → 0 ≤ (stsC F l nm v W).v ∧ (stsC F l nm v W).v ≤ 8
  | [], nm, v, W => by
    intro h0 h8 _
    rw [stsC]
    exact ⟨h0, h8⟩
  | s :: l, nm, v, W => by
    intro h0 h8
    rw [stsC]
    simp only
    unfold CR.or
    split
    · rename_i he
      have h1 := stC_v F s nm v W h0 h8 he
      exact stsC_v F l _ _ _ h1.1 h1.2
    · rename_i he; intro h; exact absurd h he
end
theorem exN_mem {x : Ex} : ∀ {l : List Ex}, x ∈ l → exN x ≤ exsN l
  | y :: l, h => by
    unfold exsN
    rcases List.mem_cons.1 h with rfl | h
    · omega
    · have := exN_mem h; omega
theorem stN_mem {x : St} : ∀ {l : List St}, x ∈ l → stN x ≤ stsN l
  | y :: l, h => by
    unfold stsN
    rcases List.mem_cons.1 h with rfl | h
    · omega
    · have := stN_mem h; omega
theorem exN_pos (x : Ex) : 1 ≤ exN x := by cases x; unfold exN; omega
theorem stN_pos (x : St) : 1 ≤ stN x := by cases x; unfold stN; omega
theorem exsN_drop : ∀ (l : List Ex) (i : Nat), exsN (l.drop i) ≤ exsN l
  | [], i => by simp
  | x :: l, 0 => by simp
  | x :: l, i + 1 => by rw [List.drop_succ_cons, exsN]; have := exsN_drop l i; omega
theorem stsN_drop : ∀ (l : List St) (i : Nat), stsN (l.drop i) ≤ stsN l
  | [], i => by simp
  | x :: l, 0 => by simp
  | x :: l, i + 1 => by rw [List.drop_succ_cons, stsN]; have := stsN_drop l i; omega
end Go.Proofs.YtkmdamljhagogaaDoor
end
section
/- Elements of lists in memory; the checker of the document's own answer. -/
namespace Go.Proofs.YtkmdamljhagogaaDoor
open Go.RowKit

theorem sl_elem4 {w : World} {s : Slc} {rs : List RawE} (h : Sl encE 4 w s.v rs) {i : Nat} {r : RawE} (hi : rs[i]? = some r) : ∃ b off, s.a = some ⟨b, off, none⟩ ∧ s.n = rs.length ∧ b < w.heap.size ∧ w.cell? ⟨b, off + i * 4, none⟩ = some (.int .i64 r.k) ∧ w.cell? ⟨b, off + i * 4 + 1, none⟩ = some (.int .i64 r.n) ∧ w.cell? ⟨b, off + i * 4 + 2, none⟩ = some (.string (bs r.t)) ∧ w.cell? ⟨b, off + i * 4 + 3, none⟩ = some (.slice r.s.a r.s.n r.s.c) := by
  obtain ⟨ao, cap, he, _, hc⟩ := h
  obtain ⟨b, off, rfl, hb, hcell⟩ := hc i r hi
  simp only [Value.slice.injEq] at he
  obtain ⟨h1, h2, _⟩ := he
  exact ⟨b, off, h1, h2, hb, hcell 0 _ rfl, hcell 1 _ rfl, hcell 2 _ rfl, hcell 3 _ rfl⟩
theorem sl_len {α : Type} {enc : α → List Value} {sz : Nat} {w : World} {s : Slc} {rs : List α} (h : Sl enc sz w s.v rs) : s.n = rs.length ∧ rs.length ≤ 9223372036854775807 := by
  obtain ⟨ao, cap, he, hm, _⟩ := h
  simp only [Value.slice.injEq] at he
  exact ⟨he.2.1, by unfold maxLen at hm; omega⟩
theorem sl_elem5 {w : World} {s : Slc} {rs : List RawS} (h : Sl encS 5 w s.v rs) {i : Nat} {r : RawS} (hi : rs[i]? = some r) : ∃ b off, s.a = some ⟨b, off, none⟩ ∧ b < w.heap.size ∧ w.cell? ⟨b, off + i * 5, none⟩ = some (.int .i64 r.k) ∧ w.cell? ⟨b, off + i * 5 + 1, none⟩ = some (.string (bs r.t)) ∧ w.cell? ⟨b, off + i * 5 + 2, none⟩ = some (.slice r.a.a r.a.n r.a.c) ∧ w.cell? ⟨b, off + i * 5 + 3, none⟩ = some (.slice r.x.a r.x.n r.x.c) ∧ w.cell? ⟨b, off + i * 5 + 4, none⟩ = some (.slice r.y.a r.y.n r.y.c) := by
  obtain ⟨ao, cap, he, _, hc⟩ := h
  obtain ⟨b, off, rfl, hb, hcell⟩ := hc i r hi
  simp only [Value.slice.injEq] at he
  exact ⟨b, off, he.1, hb, hcell 0 _ rfl, hcell 1 _ rfl, hcell 2 _ rfl, hcell 3 _ rfl, hcell 4 _ rfl⟩
theorem sl_elem3 {w : World} {s : Slc} {rs : List RawF} (h : Sl encG 3 w s.v rs) {i : Nat} {r : RawF} (hi : rs[i]? = some r) : ∃ b off, s.a = some ⟨b, off, none⟩ ∧ b < w.heap.size ∧ w.cell? ⟨b, off + i * 3, none⟩ = some (.string (bs r.t)) ∧ w.cell? ⟨b, off + i * 3 + 1, none⟩ = some (.slice r.p.a r.p.n r.p.c) ∧ w.cell? ⟨b, off + i * 3 + 2, none⟩ = some (.slice r.b.a r.b.n r.b.c) := by
  obtain ⟨ao, cap, he, _, hc⟩ := h
  obtain ⟨b, off, rfl, hb, hcell⟩ := hc i r hi
  simp only [Value.slice.injEq] at he
  exact ⟨b, off, he.1, hb, hcell 0 _ rfl, hcell 1 _ rfl, hcell 2 _ rfl⟩
theorem sl_elem1 {w : World} {s : Slc} {rs : List Bs} (h : Sl encN 1 w s.v rs) {i : Nat} {r : Bs} (hi : rs[i]? = some r) : ∃ b off, s.a = some ⟨b, off, none⟩ ∧ b < w.heap.size ∧ w.cell? ⟨b, off + i, none⟩ = some (.string (bs r)) := by
  obtain ⟨ao, cap, he, _, hc⟩ := h
  obtain ⟨b, off, rfl, hb, hcell⟩ := hc i r hi
  simp only [Value.slice.injEq] at he
  have := hcell 0 _ rfl
  rw [Nat.mul_one, Nat.add_zero] at this
  exact ⟨b, off, he.1, hb, this⟩
abbrev eo (a : RawE) : Obj := .cells #[.int .i64 a.k, .int .i64 a.n, .string (bs a.t), .slice a.s.a a.s.n a.s.c] 93
theorem has_step {nm : List Bs} {v : Bs} {k : Nat} (h : k < nm.length) (h1 : v ∉ nm.take k) (h2 : ¬ nm[k] = v) : v ∉ nm.take (k + 1) := by
  rw [List.take_succ_eq_append_getElem h, List.mem_append]
  rintro (h3 | h3)
  · exact h1 h3
  · exact h2 (by simpa using (List.mem_singleton.1 h3).symm)
set_option maxHeartbeats 400000 in
theorem has_any (s : Slc) (nm : List Bs) (v : Bs) (w : World) (h : Sl encN 1 w s.v nm) :
    Calls Tryd.prog 27 #[.slice s.a s.n s.c, .string (bs v)] w fun e w' => e = .returned (.bool (nm.contains v)) ∧ w' = w := by
  obtain ⟨hn, hmax⟩ := sl_len h
  obtain ⟨sa, sn, sc⟩ := s
  simp only at hn
  subst hn
  have HS := hide h
  generalize hr : nm.contains v = r
  have HR := hide hr
  clear h hr
  go_enter Tryd.func27, Tryd.ntmps27
  go_wp2
  go_loop [9, 6] (fun i _ => ∃ k : Nat, k ≤ nm.length ∧ i = .int .i64 k ∧ Hid (v ∉ nm.take k)) (fun i _ => nm.length - (intOf i).toNat)
  case atStart => exact ⟨0, Nat.zero_le _, rfl, by simp [Hid]⟩
  case round =>
    obtain ⟨k, hk, rfl, hno⟩ := hrel
    by_cases hlt : k < nm.length
    · obtain ⟨b, off, rfl, hb, hc⟩ := sl_elem1 (s := ⟨sa, nm.length, sc⟩) HS.out (List.getElem?_eq_getElem hlt)
      by_cases hq : nm[k] = v
      · have hr : r = true := by
          rw [← HR.out, List.contains_iff_mem, ← hq]
          exact List.getElem_mem hlt
        subst hr
        rw [hq] at hc
        go_wp2
        all_goals go_ret
        all_goals exact ⟨rfl, rfl⟩
      · have HN := hide (has_step hlt hno.out hq)
        have q1 := bs_ne hq
        generalize nm[k] = u at hc q1
        clear hq
        go_wp2
        go_round
        case rel => exact ⟨k + 1, by omega, by go_num, HN⟩
        case measure => simp [intOf]; omega
    · have hr : r = false := by
        have := hno.out
        rw [List.take_of_length_le (by omega)] at this
        rw [← HR.out]
        simpa using this
      subst hr
      go_wp2
      all_goals go_ret
      all_goals exact ⟨rfl, rfl⟩
/-- The checker's state. -/
structure CI (cb fb wb : Nat) (F : AMap) (v : Int) (W : WS) (w : World) : Prop where
  c0 : w.cell? ⟨cb, 0, none⟩ = some (.map (some fb))
  c1 : w.cell? ⟨cb, 1, none⟩ = some (.int .i64 v)
  c2 : w.cell? ⟨cb, 2, none⟩ = some (.map (some wb))
  f1 : w.frozen? ⟨cb, 1, none⟩ = false
  lt : cb < w.heap.size
  fm : SI fb F w
  wm : ∃ A, SB wb A w ∧ (∀ k, (A.f k).isSome = W.f k) ∧ A.n = W.n
  ne : cb ≠ fb ∧ cb ≠ wb ∧ fb ≠ wb
theorem CI.fr {cb fb wb : Nat} {F : AMap} {v : Int} {W : WS} {w w' : World} {S : Nat → Prop} (h : CI cb fb wb F v W w) (hf : Fr S w w') (h1 : ¬ S cb) (h2 : ¬ S fb) (h3 : ¬ S wb) : CI cb fb wb F v W w' := by
  obtain ⟨A, a1, a2, a3⟩ := h.wm
  exact ⟨(hf.cell (p := ⟨cb, 0, none⟩) h.lt h1).trans h.c0, (hf.cell (p := ⟨cb, 1, none⟩) h.lt h1).trans h.c1, (hf.cell (p := ⟨cb, 2, none⟩) h.lt h1).trans h.c2, (hf.frozen (p := ⟨cb, 1, none⟩) h.lt h1).trans h.f1, Nat.lt_of_lt_of_le h.lt hf.size, h.fm.fr hf h2, ⟨A, a1.fr hf h3, a2, a3⟩, h.ne⟩
/-- A text more. -/
theorem CI.text {cb fb wb : Nat} {F : AMap} {v : Int} {W : WS} {w : World} (h : CI cb fb wb F v W w) (t : Bs) (ht : t.length ≤ 100000) (hn : W.n ≤ 100000) :
    ∃ w', (Instr.mapUpdate 63 (.map (some wb)) (.string (bs t)) (.bool true)).run Tryd.prog w = .ok () w' ∧ CI cb fb wb F v (W.add t) w' ∧ Fr (fun j => j = wb) w w' := by
  obtain ⟨A, a1, a2, a3⟩ := h.wm
  obtain ⟨w', r, s, f⟩ := a1.store t ht 1 (by omega)
  have hne := h.ne
  have g := h.fm.fr f (by omega)
  refine ⟨w', r, ⟨(f.cell (p := ⟨cb, 0, none⟩) h.lt hne.2.1).trans h.c0, (f.cell (p := ⟨cb, 1, none⟩) h.lt hne.2.1).trans h.c1, (f.cell (p := ⟨cb, 2, none⟩) h.lt hne.2.1).trans h.c2, (f.frozen (p := ⟨cb, 1, none⟩) h.lt hne.2.1).trans h.f1, Nat.lt_of_lt_of_le h.lt f.size, g, ⟨A.put t 1, s, fun k => ?_, ?_⟩, hne⟩, f⟩
  · unfold AMap.put WS.add
    dsimp only
    by_cases hk : k = t
    · simp [hk]
    · simp [hk, a2]
  · unfold AMap.put WS.add
    dsimp only
    rw [a2, a3]
end Go.Proofs.YtkmdamljhagogaaDoor
end
section
/- Programs as code: what is made of functions (no program). -/
namespace Go.Proofs.YtkmdamljhagogaaDoor

structure In where
  op : Int
  a : Int
  b : Int
/-- A text's number, and the texts then. -/
def wnum (ws : List Bs) (t : Bs) : Nat := ws.idxOf t
def wput (ws : List Bs) (t : Bs) : List Bs := if ws.contains t then ws else ws ++ [t]
def plainOp (k : Int) : Int := if k = 5 then 6 else if k = 6 then 7 else if k = 7 then 8 else if k = 8 then 11 else if k = 10 then 13 else 0
/-- The instruction that ends an expression. -/
def lastI (G E : Bs → Int) (k n : Int) (t : Bs) (len : Nat) (ws : List Bs) : In :=
  if k = 1 then ⟨1, n, 0⟩ else if k = 2 then ⟨2, wnum ws t, 0⟩ else if k = 3 then ⟨3, E t, 0⟩ else if k = 9 then ⟨12, 0, 0⟩ else if k = 4 then ⟨5, n, 0⟩
  else if k = 11 then ⟨17, G t, len⟩ else ⟨plainOp k, 0, 0⟩
def lastW (k : Int) (t : Bs) (ws : List Bs) : List Bs := if k = 2 then wput ws t else ws
structure XR where
  ins : List In
  ws : List Bs
mutual
def exK (G E : Bs → Int) : Ex → List Bs → XR
  | .mk k n t a => fun ws => ⟨(exsK G E a ws).ins ++ [lastI G E k n t a.length (exsK G E a ws).ws], lastW k t (exsK G E a ws).ws⟩
def exsK (G E : Bs → Int) : List Ex → List Bs → XR
  | [] => fun ws => ⟨[], ws⟩
  | x :: l => fun ws => ⟨(exK G E x ws).ins ++ (exsK G E l (exK G E x ws).ws).ins, (exsK G E l (exK G E x ws).ws).ws⟩
end
/- How many values lie there at most. -/
mutual
def deepK : Ex → Nat
  | .mk _ _ _ a => max 1 (dpsK 0 a)
def dpsK : Nat → List Ex → Nat
  | _, [] => 0
  | i, x :: l => max (i + deepK x) (dpsK (i + 1) l)
end
mutual
def highK : St → Nat
  | .mk _ _ a x y => max (dpsK 0 a) (max (highsK x) (highsK y))
def highsK : List St → Nat
  | [] => 0
  | s :: l => max (highK s) (highsK l)
end
def upd (E : Bs → Int) (t : Bs) (v : Int) : Bs → Int := fun x => if x = t then v else E x
def stOp (k : Int) : Int := if k = 5 then 14 else if k = 6 then 18 else if k = 7 then 9 else if k = 8 then 10 else if k = 9 then 19 else 0
/-- The code of statements, the names then, how many variables, the texts. -/
structure KR where
  ins : List In
  E : Bs → Int
  v : Nat
  ws : List Bs
mutual
def stK (G : Bs → Int) : St → (Bs → Int) → Nat → List Bs → Nat → KR
  | .mk k t a x y => fun E v ws o =>
    if k = 1 then ⟨(exsK G E a ws).ins ++ [⟨4, v, 0⟩], upd E t v, v + 1, (exsK G E a ws).ws⟩
    else if k = 2 then ⟨(exsK G E a ws).ins ++ [⟨4, E t, 0⟩], E, v, (exsK G E a ws).ws⟩
    else if k = 3 then
      ⟨(exsK G E a ws).ins ++ ⟨16, ((o + (exsK G E a ws).ins.length + (stsK G x E v (exsK G E a ws).ws (o + (exsK G E a ws).ins.length + 1)).ins.length + 2 : Nat) : Int), 0⟩ :: ((stsK G x E v (exsK G E a ws).ws (o + (exsK G E a ws).ins.length + 1)).ins ++
        ⟨15, ((o + (exsK G E a ws).ins.length + (stsK G x E v (exsK G E a ws).ws (o + (exsK G E a ws).ins.length + 1)).ins.length + 2 + (stsK G y E (stsK G x E v (exsK G E a ws).ws (o + (exsK G E a ws).ins.length + 1)).v (stsK G x E v (exsK G E a ws).ws (o + (exsK G E a ws).ins.length + 1)).ws (o + (exsK G E a ws).ins.length + (stsK G x E v (exsK G E a ws).ws (o + (exsK G E a ws).ins.length + 1)).ins.length + 2)).ins.length : Nat) : Int), 0⟩ :: (stsK G y E (stsK G x E v (exsK G E a ws).ws (o + (exsK G E a ws).ins.length + 1)).v (stsK G x E v (exsK G E a ws).ws (o + (exsK G E a ws).ins.length + 1)).ws (o + (exsK G E a ws).ins.length + (stsK G x E v (exsK G E a ws).ws (o + (exsK G E a ws).ins.length + 1)).ins.length + 2)).ins), E,
        (stsK G y E (stsK G x E v (exsK G E a ws).ws (o + (exsK G E a ws).ins.length + 1)).v (stsK G x E v (exsK G E a ws).ws (o + (exsK G E a ws).ins.length + 1)).ws (o + (exsK G E a ws).ins.length + (stsK G x E v (exsK G E a ws).ws (o + (exsK G E a ws).ins.length + 1)).ins.length + 2)).v,
        (stsK G y E (stsK G x E v (exsK G E a ws).ws (o + (exsK G E a ws).ins.length + 1)).v (stsK G x E v (exsK G E a ws).ws (o + (exsK G E a ws).ins.length + 1)).ws (o + (exsK G E a ws).ins.length + (stsK G x E v (exsK G E a ws).ws (o + (exsK G E a ws).ins.length + 1)).ins.length + 2)).ws⟩
    else if k = 4 then
      ⟨(exsK G E a ws).ins ++ ⟨16, ((o + (exsK G E a ws).ins.length + (stsK G x E v (exsK G E a ws).ws (o + (exsK G E a ws).ins.length + 1)).ins.length + 2 : Nat) : Int), 0⟩ :: ((stsK G x E v (exsK G E a ws).ws (o + (exsK G E a ws).ins.length + 1)).ins ++ [⟨15, o, 0⟩]), E,
        (stsK G x E v (exsK G E a ws).ws (o + (exsK G E a ws).ins.length + 1)).v, (stsK G x E v (exsK G E a ws).ws (o + (exsK G E a ws).ins.length + 1)).ws⟩
    else ⟨(exsK G E a ws).ins ++ [⟨stOp k, 0, 0⟩], E, v, (exsK G E a ws).ws⟩
def stsK (G : Bs → Int) : List St → (Bs → Int) → Nat → List Bs → Nat → KR
  | [] => fun E v ws _ => ⟨[], E, v, ws⟩
  | s :: l => fun E v ws o =>
    ⟨(stK G s E v ws o).ins ++ (stsK G l (stK G s E v ws o).E (stK G s E v ws o).v (stK G s E v ws o).ws (o + (stK G s E v ws o).ins.length)).ins,
      (stsK G l (stK G s E v ws o).E (stK G s E v ws o).v (stK G s E v ws o).ws (o + (stK G s E v ws o).ins.length)).E,
      (stsK G l (stK G s E v ws o).E (stK G s E v ws o).v (stK G s E v ws o).ws (o + (stK G s E v ws o).ins.length)).v,
      (stsK G l (stK G s E v ws o).E (stK G s E v ws o).v (stK G s E v ws o).ws (o + (stK G s E v ws o).ins.length)).ws⟩
end
/-- A function's parameters are its first variables. -/
def parE : List Bs → Nat → (Bs → Int) → (Bs → Int)
  | [], _, E => E
  | t :: l, i, E => parE l (i + 1) (upd E t i)
structure Cd where
  np : Nat
  nv : Nat
  ins : List In
structure Pg where
  cs : List Cd
  ws : List Bs
def fnS (G : Bs → Int) (f : Fn) (ws : List Bs) : KR := stsK G f.b (parE f.p 0 (fun _ => 0)) f.p.length ws 0
def fnI (G : Bs → Int) (f : Fn) (ws : List Bs) : List In := (fnS G f ws).ins ++ [⟨1, 0, 0⟩, ⟨18, 0, 0⟩]
def fnMuch (G : Bs → Int) (f : Fn) (ws : List Bs) : Bool := decide (200 < (fnI G f ws).length) || decide (16 < highsK f.b)
def makeK (G : Bs → Int) : List Fn → Pg → Pg × Int
  | [], P => (P, 0)
  | f :: l, P => if fnMuch G f P.ws then (⟨[], []⟩, 4) else makeK G l ⟨P.cs ++ [⟨f.p.length, (fnS G f P.ws).v, fnI G f P.ws⟩], (fnS G f P.ws).ws⟩
/-- The functions' numbers, by their names. -/
def idxG : List Fn → Nat → (Bs → Int) → (Bs → Int)
  | [], _, G => G
  | f :: l, i, G => idxG l (i + 1) (upd G f.t i)
def progK (l : List Fn) : Pg × Int := makeK (idxG l 0 (fun _ => 0)) l ⟨[], []⟩

/- The parts of a statement, by its kind. -/
theorem exsK_nil (G E : Bs → Int) (ws : List Bs) : exsK G E [] ws = ⟨[], ws⟩ := rfl
theorem exsK_cons (G E : Bs → Int) (x : Ex) (l : List Ex) (ws : List Bs) : exsK G E (x :: l) ws = ⟨(exK G E x ws).ins ++ (exsK G E l (exK G E x ws).ws).ins, (exsK G E l (exK G E x ws).ws).ws⟩ := rfl
theorem exK_mk (G E : Bs → Int) (k n : Int) (t : Bs) (a : List Ex) (ws : List Bs) : exK G E (.mk k n t a) ws = ⟨(exsK G E a ws).ins ++ [lastI G E k n t a.length (exsK G E a ws).ws], lastW k t (exsK G E a ws).ws⟩ := rfl
theorem stsK_nil (G E : Bs → Int) (v : Nat) (ws : List Bs) (o : Nat) : stsK G [] E v ws o = ⟨[], E, v, ws⟩ := rfl
theorem stsK_cons {G E : Bs → Int} {s : St} {l : List St} {v : Nat} {ws : List Bs} {o : Nat} {r q : KR} (h : stK G s E v ws o = r) (h2 : stsK G l r.E r.v r.ws (o + r.ins.length) = q) : stsK G (s :: l) E v ws o = ⟨r.ins ++ q.ins, q.E, q.v, q.ws⟩ := by
  subst h h2; rfl
theorem stK_let {G E : Bs → Int} {t : Bs} {a : List Ex} {x y : List St} {v : Nat} {ws : List Bs} {o : Nat} {A : XR} (h : exsK G E a ws = A) : stK G (.mk 1 t a x y) E v ws o = ⟨A.ins ++ [⟨4, v, 0⟩], upd E t v, v + 1, A.ws⟩ := by
  subst h; rw [stK]; simp
theorem stK_set {G E : Bs → Int} {t : Bs} {a : List Ex} {x y : List St} {v : Nat} {ws : List Bs} {o : Nat} {A : XR} (h : exsK G E a ws = A) : stK G (.mk 2 t a x y) E v ws o = ⟨A.ins ++ [⟨4, E t, 0⟩], E, v, A.ws⟩ := by
  subst h; rw [stK]; simp
theorem stK_if {G E : Bs → Int} {t : Bs} {a : List Ex} {x y : List St} {v : Nat} {ws : List Bs} {o : Nat} {A : XR} {X Y : KR} (h : exsK G E a ws = A) (hx : stsK G x E v A.ws (o + A.ins.length + 1) = X) (hy : stsK G y E X.v X.ws (o + A.ins.length + X.ins.length + 2) = Y) :
    stK G (.mk 3 t a x y) E v ws o = ⟨A.ins ++ ⟨16, ((o + A.ins.length + X.ins.length + 2 : Nat) : Int), 0⟩ :: (X.ins ++ ⟨15, ((o + A.ins.length + X.ins.length + 2 + Y.ins.length : Nat) : Int), 0⟩ :: Y.ins), E, Y.v, Y.ws⟩ := by
  subst h hx hy; rw [stK]; simp
theorem stK_while {G E : Bs → Int} {t : Bs} {a : List Ex} {x y : List St} {v : Nat} {ws : List Bs} {o : Nat} {A : XR} {X : KR} (h : exsK G E a ws = A) (hx : stsK G x E v A.ws (o + A.ins.length + 1) = X) :
    stK G (.mk 4 t a x y) E v ws o = ⟨A.ins ++ ⟨16, ((o + A.ins.length + X.ins.length + 2 : Nat) : Int), 0⟩ :: (X.ins ++ [⟨15, o, 0⟩]), E, X.v, X.ws⟩ := by
  subst h hx; rw [stK]; simp
theorem stK_plain {G E : Bs → Int} {k : Int} {t : Bs} {a : List Ex} {x y : List St} {v : Nat} {ws : List Bs} {o : Nat} {A : XR} (h : exsK G E a ws = A) (h1 : k ≠ 1) (h2 : k ≠ 2) (h3 : k ≠ 3) (h4 : k ≠ 4) :
    stK G (.mk k t a x y) E v ws o = ⟨A.ins ++ [⟨stOp k, 0, 0⟩], E, v, A.ws⟩ := by
  subst h; rw [stK]; simp [h1, h2, h3, h4]

/- How long it gets. -/
mutual
theorem exK_len (G E : Bs → Int) : ∀ (x : Ex) (ws : List Bs), (exK G E x ws).ins.length = exN x
  | .mk k n t a, ws => by rw [exK_mk, exN]; simp only [List.length_append, List.length_singleton, exsK_len G E a ws]; omega
theorem exsK_len (G E : Bs → Int) : ∀ (l : List Ex) (ws : List Bs), (exsK G E l ws).ins.length = exsN l
  | [], ws => by rw [exsK_nil, exsN]; rfl
  | x :: l, ws => by rw [exsK_cons, exsN]; simp only [List.length_append, exK_len G E x, exsK_len G E l]
end
theorem wput_le (ws : List Bs) (t : Bs) : (wput ws t).length ≤ ws.length + 1 := by unfold wput; split <;> simp
mutual
theorem exK_ws (G E : Bs → Int) : ∀ (x : Ex) (ws : List Bs), (exK G E x ws).ws.length ≤ ws.length + exN x
  | .mk k n t a, ws => by
    rw [exK_mk, exN]
    have := exsK_ws G E a ws
    unfold lastW
    dsimp only
    split
    · have := wput_le (exsK G E a ws).ws t; omega
    · omega
theorem exsK_ws (G E : Bs → Int) : ∀ (l : List Ex) (ws : List Bs), (exsK G E l ws).ws.length ≤ ws.length + exsN l
  | [], ws => by rw [exsK_nil, exsN]; simp
  | x :: l, ws => by rw [exsK_cons, exsN]; have := exK_ws G E x ws; have := exsK_ws G E l (exK G E x ws).ws; dsimp only; omega
end
structure KLe (r : KR) (v : Nat) (ws : List Bs) (n : Nat) : Prop where
  i : r.ins.length ≤ 2 * n
  v : r.v ≤ v + n
  w : r.ws.length ≤ ws.length + n
mutual
theorem stK_le (G : Bs → Int) : ∀ (s : St) (E : Bs → Int) (v : Nat) (ws : List Bs) (o : Nat), KLe (stK G s E v ws o) v ws (stN s)
  | .mk k t a x y, E, v, ws, o => by
    have hl := exsK_len G E a ws
    have hw := exsK_ws G E a ws
    have hN : stN (.mk k t a x y) = 1 + exsN a + stsN x + stsN y := by rw [stN]
    rw [hN]
    by_cases h1 : k = 1
    · subst h1; rw [stK_let rfl]; exact ⟨by simp [hl]; omega, by simp; omega, by simp only; omega⟩
    by_cases h2 : k = 2
    · subst h2; rw [stK_set rfl]; exact ⟨by simp [hl]; omega, by simp, by simp only; omega⟩
    by_cases h3 : k = 3
    · subst h3
      rw [stK_if rfl rfl rfl]
      have hx := stsK_le G x E v (exsK G E a ws).ws (o + (exsK G E a ws).ins.length + 1)
      have hy := stsK_le G y E (stsK G x E v (exsK G E a ws).ws (o + (exsK G E a ws).ins.length + 1)).v (stsK G x E v (exsK G E a ws).ws (o + (exsK G E a ws).ins.length + 1)).ws (o + (exsK G E a ws).ins.length + (stsK G x E v (exsK G E a ws).ws (o + (exsK G E a ws).ins.length + 1)).ins.length + 2)
      have a1 := hx.i
      have a2 := hx.v
      have a3 := hx.w
      have b1 := hy.i
      have b2 := hy.v
      have b3 := hy.w
      refine ⟨?_, ?_, ?_⟩
      · simp only [List.length_append, List.length_cons, hl] at *; omega
      · simp only at *; omega
      · simp only at *; omega
    by_cases h4 : k = 4
    · subst h4
      rw [stK_while rfl rfl]
      have hx := stsK_le G x E v (exsK G E a ws).ws (o + (exsK G E a ws).ins.length + 1)
      have a1 := hx.i
      have a2 := hx.v
      have a3 := hx.w
      refine ⟨?_, ?_, ?_⟩
      · simp only [List.length_append, List.length_cons, List.length_nil, hl] at *; omega
      · simp only at *; omega
      · simp only at *; omega
    · rw [stK_plain rfl h1 h2 h3 h4]; exact ⟨by simp [hl]; omega, by simp, by simp only; omega⟩
theorem stsK_le (G : Bs → Int) : ∀ (l : List St) (E : Bs → Int) (v : Nat) (ws : List Bs) (o : Nat), KLe (stsK G l E v ws o) v ws (stsN l)
  | [], E, v, ws, o => by rw [stsK_nil]; exact ⟨by simp, by simp, by simp⟩
  | s :: l, E, v, ws, o => by
    have h1 := stK_le G s E v ws o
    have h2 := stsK_le G l (stK G s E v ws o).E (stK G s E v ws o).v (stK G s E v ws o).ws (o + (stK G s E v ws o).ins.length)
    rw [stsK_cons rfl rfl, stsN]
    have a1 := h1.i
    have a2 := h1.v
    have a3 := h1.w
    have b1 := h2.i
    have b2 := h2.v
    have b3 := h2.w
    refine ⟨?_, ?_, ?_⟩
    · simp only [List.length_append] at *; omega
    · simp only at *; omega
    · simp only at *; omega
end

/- Names that are used are there (what a right program gives). -/
mutual
def exU (H : Bs → Nat → Prop) (nm : List Bs) : Ex → Prop
  | .mk k _ t a => (k = 3 → t ∈ nm) ∧ (k = 11 → H t a.length) ∧ exsU H nm a
def exsU (H : Bs → Nat → Prop) (nm : List Bs) : List Ex → Prop
  | [] => True
  | x :: l => exU H nm x ∧ exsU H nm l
end
mutual
def stU (H : Bs → Nat → Prop) : St → List Bs → Prop
  | .mk k t a x y => fun nm => exsU H nm a ∧ (k = 1 → t ∉ nm) ∧ (k = 2 → t ∈ nm) ∧ stsU H x (stN1 nm k t) ∧ stsU H y (stN1 nm k t)
def stsU (H : Bs → Nat → Prop) : List St → List Bs → Prop
  | [] => fun _ => True
  | .mk k t a x y :: l => fun nm => stU H (.mk k t a x y) nm ∧ stsU H l (stN1 nm k t)
end
theorem exsU_mem {H : Bs → Nat → Prop} {nm : List Bs} : ∀ {l : List Ex}, exsU H nm l → ∀ x ∈ l, exU H nm x
  | y :: l, h, x, hx => by
    rw [exsU] at h
    rcases List.mem_cons.1 hx with rfl | hx
    · exact h.1
    · exact exsU_mem h.2 x hx
def HasF (F : Bs → Option Int) (t : Bs) (n : Nat) : Prop := F t = some (n : Int)
mutual
theorem exU_of (F : Bs → Option Int) (nm : List Bs) : ∀ (x : Ex) (W : WS), (exC F nm x W).e = 0 → exU (HasF F) nm x
  | .mk k n t a, W, h => by
    rw [exC] at h
    simp only [EW.or] at h
    split at h
    · rename_i h1
      rw [exU]
      refine ⟨fun hk => ?_, fun hk => ?_, exsU_of F nm a _ h⟩
      · unfold exE at h1
        rw [if_pos hk] at h1
        by_cases hc : nm.contains t = true
        · simpa using hc
        · rw [if_neg hc] at h1; cases h1
      · unfold exE at h1
        rw [if_neg (by omega), if_pos hk] at h1
        unfold HasF
        split at h1
        · cases h1
        · rename_i m hm
          by_cases e : m = a.length
          · rw [hm, e]
          · rw [if_neg e] at h1; cases h1
    · rename_i h1; exact absurd h h1
theorem exsU_of (F : Bs → Option Int) (nm : List Bs) : ∀ (l : List Ex) (W : WS), (exsC F nm l W).e = 0 → exsU (HasF F) nm l
  | [], _, _ => by rw [exsU]; trivial
  | x :: l, W, h => by
    rw [exsC] at h
    simp only [EW.or] at h
    split at h
    · rename_i h1
      rw [exsU]
      exact ⟨exU_of F nm x W h1, exsU_of F nm l _ h⟩
    · rename_i h1; exact absurd h h1
end
mutual
theorem stU_of (F : Bs → Option Int) : ∀ (s : St) (nm : List Bs) (v : Int) (W : WS), (stC F s nm v W).e = 0 → stU (HasF F) s nm
  | .mk k t a x y, nm, v, W, h => by
    rw [stC] at h
    simp only [CR.or] at h
    split at h
    · rename_i h1
      split at h
      · rename_i h2
        split at h
        · rename_i h3
          split at h
          · rename_i h4
            rw [stU]
            refine ⟨exsU_of F nm a _ h1, fun hk => ?_, fun hk => ?_, stsU_of F x _ _ _ h3, stsU_of F y _ _ _ h4⟩
            · unfold stE at h2
              rw [if_pos hk] at h2
              by_cases hc : nm.contains t = true
              · rw [if_pos hc] at h2; cases h2
              · simpa using hc
            · unfold stE at h2
              rw [if_neg (by omega), if_pos hk] at h2
              by_cases hc : nm.contains t = true
              · simpa using hc
              · rw [if_neg hc] at h2; cases h2
          · rename_i h4; exact absurd h h4
        · rename_i h3; exact absurd h h3
      · rename_i h2; exact absurd h h2
    · rename_i h1; exact absurd h h1
theorem stsU_of (F : Bs → Option Int) : ∀ (l : List St) (nm : List Bs) (v : Int) (W : WS), (stsC F l nm v W).e = 0 → stsU (HasF F) l nm
  | [], _, _, _, _ => by rw [stsU]; trivial
  | .mk k t a x y :: l, nm, v, W, h => by
    rw [stsC] at h
    simp only [CR.or] at h
    split at h
    · rename_i h1
      rw [stsU]
      refine ⟨stU_of F _ nm v W h1, ?_⟩
      have hn : (stC F (.mk k t a x y) nm v W).nm = stN1 nm k t := by
        rw [stC] at h1 ⊢
        simp only [CR.or] at h1 ⊢
        split at h1
        · rename_i g1
          rw [if_pos g1]
          split at h1
          · rename_i g2
            rw [if_pos g2]
            split at h1
            · rename_i g3
              rw [if_pos g3]
              split at h1
              · rename_i g4
                rw [if_pos g4]
              · rename_i g4; exact absurd h1 g4
            · rename_i g3; exact absurd h1 g3
          · rename_i g2; exact absurd h1 g2
        · rename_i g1; exact absurd h1 g1
      rw [hn] at h
      exact stsU_of F l _ _ _ h
    · rename_i h1; exact absurd h h1
end
end Go.Proofs.YtkmdamljhagogaaDoor
end
