/- Programs as texts. -/
import Derived.Test.YtkmdamljhagogaaDoorStmt
import Derived.Test.YtkmdamljhagogaaDoorClosP
namespace Go.Proofs.YtkmdamljhagogaaDoor
open Go.RowKit

/-- A function whose list of names has room for them. -/
def FnOk2 (w : World) (P : Nat → Prop) (r : RawF) (f : Fn) : Prop := FnOk w P r f ∧ r.p.n ≤ r.p.c
theorem fn_stays2 : Stays FnOk2 := fun _ _ _ _ _ r x h hf hp hq => ⟨fn_stays _ _ _ _ _ r x h.1 hf hp hq, h.2⟩
theorem row_cap {ρ α : Type} {E sz : Nat} {enc : ρ → List Value} {ok : World → (Nat → Prop) → ρ → α → Prop} {base : Nat} {s : Slc} {l : List α} {w : World} (h : Row E sz enc ok base s.v l w) : s.n ≤ s.c := by
  obtain ⟨rs, ⟨_, h1⟩, _⟩ := h
  rcases h1 with ⟨h1, _⟩ | ⟨g, cap, cur, h1, _, _, h2, _⟩
  · simp only [Slc.v, Value.slice.injEq] at h1
    omega
  · simp only [Slc.v, Value.slice.injEq] at h1
    omega
def finP (q : Rd (List Fn)) : List Fn × Int := if q.z = 0 then (q.v, 0) else ([], q.z)
/-- What a text's functions are, or what is wrong. -/
def refParse (N n : Nat) (s : Bs) : List Fn × Int :=
  if 1500 < s.length then ([], 4) else finP (fnsP N n s 0)
def PPost (w : World) (res : List Fn × Int) (e : Ending) (w' : World) : Prop :=
  ∃ s : Slc, e = .returned (.tuple #[.slice s.a s.n s.c, .int .i64 res.2]) ∧ Fr nothing w w' ∧ s.n = res.1.length ∧ ∃ rs, Sl encG 3 w' s.v rs ∧ Each (FnOk2 w' (fun k => k < w'.heap.size)) rs res.1
theorem ppost_nil {w w' : World} (z : Int) (hf : Fr nothing w w') : PPost w ([], z) (.returned (.tuple #[.slice none 0 0, .int .i64 z])) w' :=
  ⟨nilS, rfl, hf, rfl, [], ⟨none, 0, rfl, by unfold maxLen; simp, fun i x h => by simp at h⟩, rfl, fun i r x h => by simp at h⟩
theorem sizeFn : (Tryd.prog.info? 43).map (fun i => (i.zero, i.size, i.bytes)) = some (some (.agg #[.string ⟨#[]⟩, .slice none 0 0, .slice none 0 0]), 3, 64) := by kernel_rfl
/-- A block of three cells. -/
structure B3 (b : Nat) (v0 v1 v2 : Value) (w : World) : Prop where
  c0 : w.cell? ⟨b, 0, none⟩ = some v0
  c1 : w.cell? ⟨b, 1, none⟩ = some v1
  c2 : w.cell? ⟨b, 2, none⟩ = some v2
  f : ∀ j, w.frozen? ⟨b, j, none⟩ = false
  lt : b < w.heap.size
theorem B3.fr {b : Nat} {v0 v1 v2 : Value} {w w' : World} {S : Nat → Prop} (h : B3 b v0 v1 v2 w) (hf : Fr S w w') (hs : ¬ S b) : B3 b v0 v1 v2 w' :=
  ⟨(hf.cell (p := ⟨b, 0, none⟩) h.lt hs).trans h.c0, (hf.cell (p := ⟨b, 1, none⟩) h.lt hs).trans h.c1, (hf.cell (p := ⟨b, 2, none⟩) h.lt hs).trans h.c2, fun j => (hf.frozen (p := ⟨b, j, none⟩) h.lt hs).trans (h.f j), Nat.lt_of_lt_of_le h.lt hf.size⟩
theorem B3.made (w : World) (v0 v1 v2 : Value) (t : TypeId) : B3 w.heap.size v0 v1 v2 (w.alloc (.cells #[v0, v1, v2] t)) := by
  have hn := made_cells (Fr.refl nothing (w.alloc (.cells #[v0, v1, v2] t))) id
  exact ⟨hn.1 0, hn.1 1, hn.1 2, hn.2.1, hn.2.2⟩
theorem each_names {w : World} {P : Nat → Prop} {rs xs : List Bs} (h : Each (NmOk w P) rs xs) : rs = xs := by
  apply List.ext_getElem? 
  intro i
  rcases Nat.lt_or_ge i rs.length with hi | hi
  · have h1 : rs[i]? = some rs[i] := List.getElem?_eq_getElem hi
    have h2 : xs[i]? = some (xs[i]'(h.1 ▸ hi)) := List.getElem?_eq_getElem _
    have := h.2 i _ _ h1 h2
    rw [h1, h2]
    exact congrArg some this
  · rw [List.getElem?_eq_none hi, List.getElem?_eq_none (h.1 ▸ hi)]
theorem fn_ok {w wu wv : World} {rb bf B : Nat} {nm : Bs} {ps : List Bs} {bd : List St} {w0 : World} {wm : World} {l : Bs} {z : Int} {sp st : Slc} (hJ : JL w0 rb 9 1 encN NmOk wm bf 1 ps l z wu) (hsp : wu.cell? ⟨bf, 1, none⟩ = some sp.v) (hF : Fr (at_ rb) wu wv)
    (hrb : rb < B) (hB : B ≤ wm.heap.size) (hbf : bf < wm.heap.size) (hL : GOk encS 5 StOk wu.heap.size wv st bd) (hw : Fr (fun k => k = bf) wv w) : FnOk2 w (fun k => B ≤ k ∧ k < w.heap.size) ⟨nm, sp, st⟩ ⟨nm, ps, bd⟩ := by
  obtain ⟨s', h1, h2⟩ := hJ.row
  have hsz := hJ.fr.size
  obtain rfl : s' = sp := by
    rw [h1] at hsp
    have e := Option.some.inj hsp
    obtain ⟨a, b, c⟩ := s'
    obtain ⟨a', b', c'⟩ := sp
    simp only [Value.slice.injEq] at e
    obtain ⟨rfl, rfl, rfl⟩ := e
    rfl
  have hcap := row_cap h2
  obtain ⟨rs, k1, k2, k3⟩ := h2.done nm_stays encN_len (B := wm.heap.size) (Nat.le_refl _)
  have hrs := each_names k3
  subst hrs
  have hG : GOk encN 1 NmOk wm.heap.size wu s' rs := ⟨rs, k1, k2, k3⟩
  obtain ⟨rs2, g1, g2, g3⟩ := ((hG.fr nm_stays hF (fun k e => by have : k = rb := e; omega)).fr nm_stays hw (fun k e => by omega)).since nm_stays hB
  have hrs2 := each_names g3
  subst hrs2
  have hsz2 := hF.size
  obtain ⟨rs3, q1, q2, q3⟩ := (hL.fr st_stays hw (fun k e => by omega)).since st_stays (B' := B) (by omega)
  exact ⟨⟨rfl, g1, g2, ⟨rs3, q1, q3⟩, q2⟩, hcap⟩
theorem fns_end (N : Nat) {m : Nat} (hm : 0 < m) {l : Bs} (hs : skip l = []) : fnsP N m l 0 = ⟨[], [], 0⟩ := by
  obtain ⟨k, rfl⟩ : ∃ k, m = k + 1 := ⟨m - 1, by omega⟩
  simp [fnsP, hs]
theorem fns_bad (N : Nat) {m : Nat} (l : Bs) {z : Int} (hz : z ≠ 0) : fnsP N m l z = ⟨[], l, z⟩ := by
  cases m with
  | zero => rfl
  | succ k => simp [fnsP, hz]
theorem fns_more (N k : Nat) {l : Bs} (hs : skip l ≠ []) : fnsP N (k + 1) l 0 = (fnsP N k (fn N (skip l) 0).l (fn N (skip l) 0).z).after [(fn N (skip l) 0).v] := by
  rw [fnsP]
  have : (skip l).isEmpty = false := by cases hk : skip l with
    | nil => exact absurd hk hs
    | cons a b => rfl
  simp only [if_true, this, Bool.false_eq_true, if_false]
  rfl
theorem peek_some {l : Bs} (h : l ≠ []) : ¬ ((peekC l).toNat : Int) = 0 := by
  cases l with
  | nil => exact absurd rfl h
  | cons c t =>
    intro e
    have e1 : (peekC (c :: t)).toNat = (0 : UInt8).toNat := by
      have : ((0 : UInt8).toNat : Int) = 0 := rfl
      omega
    exact peekC_ne (UInt8.toNat_inj.1 e1)
set_option maxHeartbeats 400000 in
theorem parse_long (s : Bs) (N n : Nat) (w : World) (hs : 1500 < s.length) (hmax : s.length ≤ 9223372036854775807) :
    Calls Tryd.prog 7 #[.string (bs s)] w (PPost w (refParse N n s)) := by
  have e : refParse N n s = ([], 4) := by simp [refParse, hs]
  rw [e]
  have hsz := bs_size s
  have h1 : (1500 : Int) < ((bs s).size : Int) := by rw [hsz]; omega
  clear e
  go_enter Tryd.func7, Tryd.ntmps7
  go_wp2
  go_ret2
  exact ppost_nil 4 (Fr.refl _ _)
theorem stmts0 (w0 : World) (rb N : Nat) (hN : 1502 ≤ N) (l : Bs) (z : Int) (w : World) (h : Pw w0 rb l z w) : Calls Tryd.prog 23 #[.pointer (some ⟨rb, 0, none⟩), .int .i64 0] w (LPost rb w (until_ (stmt N 11) N l z)) :=
  stmts_any w0 rb 0 (stmt N 11) N hN (stmt_less N 11) (stmt_small N 11) (by omega) (by omega) (fun l1 w1 h1 => stmt_any w0 rb N hN 11 0 l1 0 w1 (by omega) (by omega) h1) l z w h
set_option maxHeartbeats 1000000 in
set_option maxRecDepth 20000 in
theorem parse_short (s : Bs) (N n : Nat) (w : World) (hE : Er w) (hT : Tab w) (hs : s.length ≤ 1500) (hN : 1502 ≤ N) (hn : 1502 ≤ n) :
    Calls Tryd.prog 7 #[.string (bs s)] w (PPost w (refParse N n s)) := by
  have e : refParse N n s = finP (fnsP N n s 0) := by
    have : ¬ 1500 < s.length := by omega
    simp [refParse, this]
  rw [e]
  clear e
  have hsz := bs_size s
  have h1 : ¬ (1500 : Int) < ((bs s).size : Int) := by rw [hsz]; omega
  have h1' : ¬ (1500 : Int) < (s.length : Int) := by omega
  have hw1 : ∃ w1 : World, w1 = (w.alloc (.cells #[.string (bs s), .int .i64 0] 49)).alloc (.cells #[.pointer (some ⟨w.heap.size, 0, none⟩)] 47) := ⟨_, rfl⟩
  obtain ⟨w1, hw1⟩ := hw1
  have hFw : Fr nothing w w1 := by rw [hw1]; exact ((Fr.refl _ w).alloc _).alloc _
  have hs1 : w1.heap.size = w.heap.size + 1 + 1 := by rw [hw1]; simp
  have hP1 : Pw w w.heap.size s 0 w1 := by
    have hn := made_cells (Fr.refl nothing (w.alloc (.cells #[.string (bs s), .int .i64 0] 49))) id
    have hp : Pr w.heap.size s 0 (w.alloc (.cells #[.string (bs s), .int .i64 0] 49)) := ⟨hn.1 0, hn.1 1, hn.2.1 0, hn.2.1 1, hn.2.2⟩
    refine ⟨?_, hs, hFw.below (Nat.le_refl _) (fun k _ e => e), Nat.le_refl _, hT, hE⟩
    rw [hw1]
    exact hp.fr ((Fr.refl nothing _).alloc _) id
  have hbp : w1.cell? ⟨w.heap.size + 1, 0, none⟩ = some (.pointer (some ⟨w.heap.size, 0, none⟩)) := by
    rw [hw1, show w.heap.size + 1 = (w.alloc (.cells #[.string (bs s), .int .i64 0] 49)).heap.size by simp, World.cell?_alloc_new]
    rfl
  have HW1 := hide hw1
  have HFW := hide hFw
  have HP1 := hide hP1
  have HBP := hide hbp
  clear hw1 hFw hP1 hE hT hbp
  obtain ⟨j0, hj0, hy0, hy1, hy2⟩ := info_parts sizeFn
  go_enter Tryd.func7, Tryd.ntmps7
  go_wp2
  go_loopw [5] (fun v wr => ∃ (m : Nat) (ac : List Fn) (q : Bs) (zq : Int) (va : Option Addr) (vc : Nat), v = .slice va ac.length vc ∧ 0 < m ∧ Hid ((zq = 0 → q.length + 1 < m ∧ ac.length + q.length ≤ 1500) ∧ Pw w w.heap.size q zq wr ∧ Fr (at_ w.heap.size) w1 wr ∧ Row 43 3 encG FnOk2 w1.heap.size (.slice va ac.length vc) ac wr ∧ fnsP N n s 0 = (fnsP N m q zq).after ac)) (fun _ wr => leftOf wr w.heap.size)
  case atStart =>
    refine ⟨n, [], s, 0, none, 0, rfl, by omega, ?_⟩
    rw [← HW1.out]
    exact ⟨fun _ => ⟨by omega, by simpa using hs⟩, HP1.out, Fr.refl _ _, Row.nil _ (Nat.le_refl _), (after_nil _).symm⟩
  case round =>
    obtain ⟨m, ac, q, zq, va, vc, rfl, hm0, hR⟩ := hrel
    obtain ⟨hle, hPq, hFq, hrow, hfns⟩ := hR.out
    have hbpr : wr.cell? ⟨w.heap.size + 1, 0, none⟩ = some (.pointer (some ⟨w.heap.size, 0, none⟩)) := (hFq.cell (p := ⟨w.heap.size + 1, 0, none⟩) (by show w.heap.size + 1 < _; omega) (by show ¬ w.heap.size + 1 = w.heap.size; omega)).trans HBP.out
    have hszr := hFq.size
    have hbl : w.heap.size + 1 < wr.heap.size := by omega
    have hc1 := hPq.pr.e
    have hrl := hPq.pr.lt
    have HFQ := hide hFq
    by_cases hz : zq = 0
    · subst hz
      obtain ⟨hle1, hle2⟩ := hle rfl
      have HPK := hide (peek_any w.heap.size q 0 wr hPq.pr hPq.len)
      cases hsk : skip q with
      | nil =>
        rw [hsk, show ((peekC []).toNat : Int) = 0 from rfl] at HPK
        have hres : fnsP N n s 0 = ⟨ac, [], 0⟩ := by rw [hfns, fns_end N hm0 hsk]; simp [Rd.after]
        have HRES := hide hres
        have HROW := hide hrow
        clear hR hPq hFq hrow hfns hle hres
        go_wp2_with (go_at_call 18; refine HPK.out.mono ?_; rintro e w2 ⟨rfl, hp, hf⟩; have hbp2 := (hf.cell (p := ⟨w.heap.size + 1, 0, none⟩) hbl (by show ¬ w.heap.size + 1 = w.heap.size; omega)).trans hbpr; have hbl2 : w.heap.size + 1 < w2.heap.size := (Nat.lt_of_lt_of_le hbl hf.size); have hc2 := hp.e; have hrl2 := hp.lt; have HF2 := hide hf; clear hp hf)
        go_ret2
        rw [HRES.out]
        obtain ⟨rs, k1, k2, k3⟩ := (HROW.out.fr fn_stays2 HF2.out (fun k e => by have : k = w.heap.size := e; omega)).done fn_stays2 encG_len (B := 0) (Nat.zero_le _)
        refine ⟨⟨va, ac.length, vc⟩, rfl, (HFW.out.then HFQ.out (fun j hj e => by have : j = w.heap.size := e; omega)).then HF2.out (fun j hj e => by have : j = w.heap.size := e; omega), rfl, rs, k1, k3.1, fun i r x h1 h2 => fn_stays2 _ _ nothing _ _ r x (k3.2 i r x h1 h2) (Fr.refl _ _) (fun _ _ => id) (fun _ hk => hk.2)⟩
      | cons c0 t0 =>
        have hskne : skip q ≠ [] := by rw [hsk]; simp
        obtain ⟨m, rfl⟩ : ∃ k, m = k + 1 := ⟨m - 1, by omega⟩
        have HMO := hide (fns_more N m hskne)
        have n0 := peek_some hskne
        have b0 := ne_bne n0
        have hkl := skip_len q
        clear hsk
        obtain ⟨a1, ha1⟩ : ∃ a, must 40 (skip q) 0 = a := ⟨_, rfl⟩
        obtain ⟨t1, ht1⟩ : ∃ a, name a1.l a1.z = a := ⟨_, rfl⟩
        obtain ⟨a2, ha2⟩ : ∃ a, must 40 t1.l t1.z = a := ⟨_, rfl⟩
        obtain ⟨p1, hp1⟩ : ∃ a, until_ name N a2.l a2.z = a := ⟨_, rfl⟩
        obtain ⟨s1, hs1'⟩ : ∃ a, until_ (stmt N 11) N p1.l p1.z = a := ⟨_, rfl⟩
        have hfn : fn N (skip q) 0 = ⟨⟨t1.v, p1.v, s1.v⟩, s1.l, s1.z⟩ := by
          unfold fn
          simp only [ha1, ht1, ha2, hp1, hs1']
        have hql := hPq.len
        have g1 : a1.l.length ≤ (skip q).length := ha1 ▸ must_small 40 (skip q) 0
        have g2 : t1.l.length ≤ a1.l.length := ht1 ▸ name_small a1.l a1.z
        have g3 : a2.l.length ≤ t1.l.length := ha2 ▸ must_small 40 t1.l t1.z
        have g4 : p1.l.length ≤ a2.l.length := hp1 ▸ until_small name_small N a2.l a2.z
        have g5 : s1.l.length ≤ p1.l.length := hs1' ▸ until_small (stmt_small N 11) N p1.l p1.z
        have g6 : s1.z = 0 → s1.l.length < (skip q).length := fun h0 => by
          have := fn_less N (skip q) (by rw [hfn]; exact h0)
          rw [hfn] at this
          exact this
        rw [hfn] at HMO
        have M1 : Hid (∀ w', Pr w.heap.size (skip q) 0 w' → Calls Tryd.prog 19 #[.pointer (some ⟨w.heap.size, 0, none⟩), .int .u8 40] w' fun r w'' => r = .returned (.tuple #[]) ∧ Pr w.heap.size a1.l a1.z w'' ∧ Fr (at_ w.heap.size) w' w'') := fun w' hp => ha1 ▸ must_any w.heap.size (skip q) 0 40 w' hp (by omega) (by decide)
        have NM : Hid (∀ w', Pr w.heap.size a1.l a1.z w' → Calls Tryd.prog 20 #[.pointer (some ⟨w.heap.size, 0, none⟩)] w' fun e w'' => e = .returned (.string (bs t1.v)) ∧ Pr w.heap.size t1.l t1.z w'' ∧ Fr (at_ w.heap.size) w' w'') := fun w' hp => ht1 ▸ nameR_any w.heap.size a1.l a1.z w' hp (by omega)
        have M2 : Hid (∀ w', Pr w.heap.size t1.l t1.z w' → Calls Tryd.prog 19 #[.pointer (some ⟨w.heap.size, 0, none⟩), .int .u8 40] w' fun r w'' => r = .returned (.tuple #[]) ∧ Pr w.heap.size a2.l a2.z w'' ∧ Fr (at_ w.heap.size) w' w'') := fun w' hp => ha2 ▸ must_any w.heap.size t1.l t1.z 40 w' hp (by omega) (by decide)
        have UP : Hid (∀ wm bf, Pw w w.heap.size a2.l a2.z wm → B3 bf (.string (bs t1.v)) (.slice none 0 0) (.slice none 0 0) wm → wm.cell? ⟨w.heap.size + 1, 0, none⟩ = some (.pointer (some ⟨w.heap.size, 0, none⟩)) → w.heap.size + 1 < bf → Calls Tryd.prog 21 #[.pointer (some ⟨w.heap.size, 0, none⟩), .func (.func 22) #[] #[.pointer (some ⟨bf, 0, none⟩), .pointer (some ⟨w.heap.size + 1, 0, none⟩)]] wm
            fun e w' => e = .returned (.tuple #[]) ∧ JL w w.heap.size 9 1 encN NmOk wm bf 1 p1.v p1.l p1.z w') := fun wm bf hp hb hc hlt => by
          have hJ0 : JL w w.heap.size 9 1 encN NmOk wm bf 1 [] a2.l a2.z wm :=
            { pw := hp, fr := Fr.refl _ _, fz := fun _ => rfl, old := fun _ _ => rfl, le := fun _ => by have := hp.len; simpa using this, row := ⟨nilS, hb.c1, Row.nil _ (Nat.le_refl _)⟩ }
          have := until_P w.heap.size _ _ name (JL w w.heap.size 9 1 encN NmOk wm bf 1) name_less name_small (fun acc l z w h => ⟨h.pw.pr, h.pw.len⟩)
            (fun acc l l' z z' w' w'' h hp' hl hz hf => h.move nm_stays hb.lt hp.pr.lt (by omega) hp' hl hz hf)
            (fun acc l w' h => clP w w.heap.size wm (w.heap.size + 1) bf acc l w' hc hb.lt hp.pr.lt ⟨by omega, by omega, by omega⟩ ⟨by omega, hp.bel.size⟩ (hb.f 1) h)
            N [] a2.l a2.z wm hJ0 (by omega) (fun _ => by have := hp.len; omega)
          rw [hp1] at this
          exact this
        have SS : Hid (∀ w', Pw w w.heap.size p1.l p1.z w' → Calls Tryd.prog 23 #[.pointer (some ⟨w.heap.size, 0, none⟩), .int .i64 0] w' (LPost w.heap.size w' s1)) := fun w' hp => by
          have := stmts0 w w.heap.size N hN p1.l p1.z w' hp
          rw [hs1'] at this
          exact this
        have HPQ := hide hPq
        have HROW := hide hrow
        have HFNS := hide hfns
        clear hR hPq hFq hrow hfns hle ha1 ht1 ha2 hp1 hs1' hfn
        go_wp2_with (first
          | (go_at_call 18; refine HPK.out.mono ?_; rintro e w2 ⟨rfl, hp, hf⟩; have hbp2 := (hf.cell (p := ⟨w.heap.size + 1, 0, none⟩) hbl (by show ¬ w.heap.size + 1 = w.heap.size; omega)).trans hbpr; have hbl2 : w.heap.size + 1 < w2.heap.size := (Nat.lt_of_lt_of_le hbl hf.size); have HP2 := hide hp; have HF2 := hide hf; clear hp hf hbpr)
          | (go_at_call 19; first
              | (refine (M2.out _ HP5.out).mono ?_; rintro e w6 ⟨rfl, hp, hf⟩; have hbp6 := (hf.cell (p := ⟨w.heap.size + 1, 0, none⟩) (by show w.heap.size + 1 < _; omega) (by show ¬ w.heap.size + 1 = w.heap.size; omega)).trans hbp5; have hbl6 : w.heap.size + 1 < w6.heap.size := (Nat.lt_of_lt_of_le hbl5 hf.size); have HF6 := hide (HF5.out.trans hf); have HB6 := hide (HB5.out.fr hf (by show ¬ w4.heap.size = w.heap.size; omega)); have PW6 := hide (HPQ.out.of hp (by omega) HF6.out); clear hp hf hbp5)
              | (refine (M1.out _ HP2.out).mono ?_; rintro e w3 ⟨rfl, hp, hf⟩; have hbp3 := (hf.cell (p := ⟨w.heap.size + 1, 0, none⟩) hbl2 (by show ¬ w.heap.size + 1 = w.heap.size; omega)).trans hbp2; have hbl3 : w.heap.size + 1 < w3.heap.size := (Nat.lt_of_lt_of_le hbl2 hf.size); have HF3 := hide (HF2.out.trans hf); have HP3 := hide hp; clear hp hf hbp2))
          | (go_at_call 20; refine (NM.out _ HP3.out).mono ?_; rintro e w4 ⟨rfl, hp, hf⟩; have hbl4 : w.heap.size + 1 < w4.heap.size := (Nat.lt_of_lt_of_le hbl3 hf.size); have hz4 : wr.heap.size ≤ w4.heap.size := ((HF3.out.trans hf).size); have hbp4 := (hf.cell (p := ⟨w.heap.size + 1, 0, none⟩) hbl3 (by show ¬ w.heap.size + 1 = w.heap.size; omega)).trans hbp3; have hbp5 : (w4.alloc (.cells #[.string (bs t1.v), .slice none 0 0, .slice none 0 0] 43)).cell? ⟨w.heap.size + 1, 0, none⟩ = some (.pointer (some ⟨w.heap.size, 0, none⟩)) := (World.cell?_alloc_past _ _ _ hbl4).trans hbp4; have hbl5 : w.heap.size + 1 < (w4.alloc (.cells #[.string (bs t1.v), .slice none 0 0, .slice none 0 0] 43)).heap.size := (by simp; omega); have HB5 := hide (B3.made w4 (.string (bs t1.v)) (.slice none 0 0) (.slice none 0 0) 43); have HF5 := hide ((HF3.out.trans hf).alloc (.cells #[.string (bs t1.v), .slice none 0 0, .slice none 0 0] 43)); have HP5 := hide (hp.fr ((Fr.refl nothing w4).alloc (.cells #[.string (bs t1.v), .slice none 0 0, .slice none 0 0] 43)) id); clear hp hf hbp3)
          | (go_at_call 21; refine (UP.out _ w4.heap.size PW6.out HB6.out hbp6 hbl4).mono ?_; rintro e w7 ⟨rfl, hj⟩; have hbp7 := (hj.fr.cell (p := ⟨w.heap.size + 1, 0, none⟩) hbl6 (by show ¬ (w.heap.size + 1 = w.heap.size ∨ w.heap.size + 1 = w4.heap.size); omega)).trans hbp6; have hbl7 : w.heap.size + 1 < w7.heap.size := (Nat.lt_of_lt_of_le hbl6 hj.fr.size); obtain ⟨sp, hsp, -⟩ := hj.row; have hB7 : B3 w4.heap.size (.string (bs t1.v)) (.slice sp.a sp.n sp.c) (.slice none 0 0) w7 := ⟨(hj.old 0 (by decide)).trans HB6.out.c0, hsp, (hj.old 2 (by decide)).trans HB6.out.c2, fun j => (hj.fz j).trans (HB6.out.f j), Nat.lt_of_lt_of_le HB6.out.lt hj.fr.size⟩; have HJ7 := hide hj; have HB7 := hide hB7; have HSP := hide hsp; clear hj hB7 hbp6 hsp)
          | (go_at_call 23; refine (SS.out _ HJ7.out.pw).mono ?_; rintro e w8 ⟨st, rfl, hf, hp, hn8, hls⟩; have hB8 := HB7.out.fr hf (by show ¬ w4.heap.size = w.heap.size; omega); have HB8 := hide hB8; obtain ⟨x0, x1, x2, xf, xl⟩ := hB8; have xf2 := xf 2; have HF8 := hide hf; have HP8 := hide hp; have HL8 : Hid (GOk encS 5 StOk w7.heap.size w8 st s1.v) := hls; have hbp8 := (hf.cell (p := ⟨w.heap.size + 1, 0, none⟩) hbl7 (by show ¬ w.heap.size + 1 = w.heap.size; omega)).trans hbp7; have hbl8 : w.heap.size + 1 < w8.heap.size := (Nat.lt_of_lt_of_le hbl7 hf.size); have F7 : Fr (at_ w.heap.size) wr w7 := (HF6.out.then HJ7.out.fr (fun j hj e => by rcases e with e | e; exact e; omega)); have FS := hide ((F7.trans hf).setCell (p := ⟨w4.heap.size, 2, none⟩) (.inr hz4) (.slice st.a st.n st.c)); have FA := hide (FS.out.alloc (.cells #[.string (bs t1.v), .slice sp.a sp.n sp.c, .slice st.a st.n st.c] 43)); obtain ⟨rs, hown, -, -⟩ := HROW.out; have hownA := (owns_fr hown FA.out (fun k hk e => by have := (hown.lt k hk).1; have : k = w.heap.size := e; omega)); have HOA := hide hownA; have hbA : w1.heap.size ≤ ((w8.setCell ⟨w4.heap.size, 2, none⟩ (.slice st.a st.n st.c)).alloc (.cells #[.string (bs t1.v), .slice sp.a sp.n sp.c, .slice st.a st.n st.c] 43)).heap.size := (Nat.le_trans hszr FA.out.size); have NW : Hid (∀ j u, (encG ⟨t1.v, sp, st⟩)[j]? = some u → ((w8.setCell ⟨w4.heap.size, 2, none⟩ (.slice st.a st.n st.c)).alloc (.cells #[.string (bs t1.v), .slice sp.a sp.n sp.c, .slice st.a st.n st.c] 43)).cell? ((⟨w8.heap.size, 0, none⟩ : Addr).add j) = some u) := (by have := World.news_of_block (cs := #[.string (bs t1.v), .slice sp.a sp.n sp.c, .slice st.a st.n st.c]) (t := 43) (fr := (0, 0)) (heap_new (w8.setCell ⟨w4.heap.size, 2, none⟩ (.slice st.a st.n st.c)) (.cells #[.string (bs t1.v), .slice sp.a sp.n sp.c, .slice st.a st.n st.c] 43)); rw [show (w8.setCell ⟨w4.heap.size, 2, none⟩ (.slice st.a st.n st.c)).heap.size = w8.heap.size by simp [World.setCell]] at this; exact this); have hac : ac.length ≤ 1500 := (by omega); clear hf hp hls hbp7 xf hn8 hown hownA F7)
          | (at_builtin; go_must (refine wpList_append_lies _ rfl _ _ 22 rfl w1.heap.size 43 j0 _ 3 64 Tryd.underlying22 hj0 hy0 hy1 hy2 rfl (by decide) (.slice va ac.length vc) ac.length _ rfl HOA.out ⟨w8.heap.size, 0, none⟩ 1 1 (encG ⟨t1.v, sp, st⟩) rfl rfl NW.out (by simp [encG, Value.oneCell']) (by decide) (by unfold maxLen; omega) (by omega) hbA _ rfl ?_); intro g cp w9 hr9 hg9 hat9 hlt9))
        have hfnA : FnOk2 ((w8.setCell ⟨w4.heap.size, 2, none⟩ (.slice st.a st.n st.c)).alloc (.cells #[.string (bs t1.v), .slice sp.a sp.n sp.c, .slice st.a st.n st.c] 43)) (fun k => wr.heap.size ≤ k ∧ k < ((w8.setCell ⟨w4.heap.size, 2, none⟩ (.slice st.a st.n st.c)).alloc (.cells #[.string (bs t1.v), .slice sp.a sp.n sp.c, .slice st.a st.n st.c] 43)).heap.size) ⟨t1.v, sp, st⟩ ⟨t1.v, p1.v, s1.v⟩ := by
          have h1 := fn_ok (nm := t1.v) (B := wr.heap.size) HJ7.out HSP.out HF8.out (by omega) (by have := HF6.out.size; omega) HB6.out.lt HL8.out ((Fr.refl (fun k => k = w4.heap.size) w8).setCell (p := ⟨w4.heap.size, 2, none⟩) (.inl rfl) (.slice st.a st.n st.c))
          exact fn_stays2 _ _ nothing _ _ _ _ h1 ((Fr.refl nothing _).alloc _) (fun _ _ => id) (fun k hk => ⟨hk.1, by have := hk.2; simp [World.setCell] at this ⊢; omega⟩)
        have hPA : Pr w.heap.size s1.l s1.z ((w8.setCell ⟨w4.heap.size, 2, none⟩ (.slice st.a st.n st.c)).alloc (.cells #[.string (bs t1.v), .slice sp.a sp.n sp.c, .slice st.a st.n st.c] 43)) := (HP8.out.fr ((Fr.refl (fun k => k = w4.heap.size) w8).setCell (p := ⟨w4.heap.size, 2, none⟩) (.inl rfl) (.slice st.a st.n st.c)) (by show ¬ w.heap.size = w4.heap.size; omega)).fr ((Fr.refl nothing _).alloc _) id
        have hF9 : Fr (fun k => (Value.slice va ac.length vc).ownBlock = some k) ((w8.setCell ⟨w4.heap.size, 2, none⟩ (.slice st.a st.n st.c)).alloc (.cells #[.string (bs t1.v), .slice sp.a sp.n sp.c, .slice st.a st.n st.c] 43)) w9 := (Fr.refl _ _).grown hg9 (fun k hk => .inl hk)
        have hown9 : ∀ k, (Value.slice va ac.length vc).ownBlock = some k → w1.heap.size ≤ k := fun k hk => (HOA.out.lt k hk).1
        have hP9 : Pr w.heap.size s1.l s1.z w9 := hPA.fr hF9 (fun e => by have := hown9 _ e; omega)
        have hFr9 : Fr (at_ w.heap.size) w1 w9 := (HFQ.out.trans FA.out).then hF9 (fun j hj e => by have := hown9 _ e; omega)
        have hrow9 : Row 43 3 encG FnOk2 w1.heap.size (.slice (some ⟨g, 0, none⟩) (ac.length + 1) cp) (ac ++ [⟨t1.v, p1.v, s1.v⟩]) w9 :=
          HROW.out.push fn_stays2 FA.out (fun k e => by have : k = w.heap.size := e; omega) (Nat.le_refl _) hfnA hF9 (fun k e => .inr e) (fun rs2 hrs => by
            have h2 : ((w8.setCell ⟨w4.heap.size, 2, none⟩ (.slice st.a st.n st.c)).alloc (.cells #[.string (bs t1.v), .slice sp.a sp.n sp.c, .slice st.a st.n st.c] 43)).ownsRow w1.heap.size 43 3 (.slice va ac.length vc) ac.length (rs2.flatMap encG) := owns_fr hrs FA.out (fun k hk e => by have := (hrs.lt k hk).1; have : k = w.heap.size := e; omega)
            rw [owns_same h2 HOA.out]
            exact hr9) (by
            rcases hat9 with e | e
            · exact .inl e.symm
            · exact .inr ⟨g, rfl, by omega⟩)
        have hP9w : Pw w w.heap.size s1.l s1.z w9 := ⟨hP9, by omega, (HFW.out.then hFr9 (fun j hj e => by have : j = w.heap.size := e; omega)).below (Nat.le_refl _) (fun k _ e => e), Nat.le_refl _, HPQ.out.tab, HPQ.out.er⟩
        refine ⟨⟨m, ac ++ [⟨t1.v, p1.v, s1.v⟩], s1.l, s1.z, some ⟨g, 0, none⟩, cp, by simp, by omega, fun h0 => ?_, hP9w, hFr9, by simpa using hrow9, ?_⟩, ?_⟩
        · have := g6 h0
          simp
          omega
        · rw [HFNS.out, HMO.out, after_after]
        · rw [HPQ.out.pr.leftOf0]
          by_cases h0 : s1.z = 0
          · have := g6 h0
            rw [h0] at hP9
            rw [hP9.leftOf0]
            omega
          · rw [hP9.leftOf1 h0]
            omega
    · have hres : fnsP N n s 0 = ⟨ac, q, zq⟩ := by rw [hfns, fns_bad N q hz]; simp [Rd.after]
      have HRES := hide hres
      have hz1 : (zq == 0) = false := by simpa using hz
      have hz2 := ne_bne hz
      clear hR hPq hFq hrow hfns hle hres
      go_wp2_with fail
      go_region
      all_goals go_wp2
      all_goals go_ret2
      all_goals rw [HRES.out, show finP ⟨ac, q, zq⟩ = ([], zq) by simp [finP, hz]]
      all_goals exact ppost_nil zq (HFW.out.then HFQ.out (fun j hj e => by have : j = w.heap.size := e; omega)).drew
end Go.Proofs.YtkmdamljhagogaaDoor
