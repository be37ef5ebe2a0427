/- StmtPlain; Scan; ExprF. -/
import Derived.Test.YtpemfikdmkmgbaaDoorPartB11
import Derived.Test.YtpemfikdmkmgbaaDoorPartB7
import Derived.Test.YtpemfikdmkmgbaaDoorPartB10
section
/- A statement: say, return, putl, putr, do. -/
namespace Go.Proofs.YtpemfikdmkmgbaaDoor
open Go.RowKit

set_option maxHeartbeats 4000000 in
set_option maxRecDepth 20000 in
theorem stmt_plain (w0 : World) (rb : Nat) (l : Bs) (d : Int) (w : World) (h : Pw w0 rb l 0 w) (hd0 : 0 ≤ d) (hd : d ≤ 10) (one : Reader Ex) (hsmall : Small one) (hless : Less one) (hkeeps : Keeps one)
    (hone : ∀ l z w, Pw w0 rb l z w → Calls Tryd.prog 65 #[.pointer (some ⟨rb, 0, none⟩), .int .i64 (d + 1)] w (XPost ev ExOk rb w (one l z)))
    {l1 l2 v : Bs} {z1 z2 : Int} (hm : must 40 l 0 = ⟨(), l1, z1⟩) (hw : word l1 z1 = ⟨v, l2, z2⟩) {c : Nat} (hc : kindOf v = c) (h5 : 5 ≤ c) (h9 : c ≤ 9)
    {q : Rd (List Ex)} (hq : times one (argsOf c) l2 z2 = q)  :
    Calls Tryd.prog 58 #[.pointer (some ⟨rb, 0, none⟩), .int .i64 d] w (XPost sv StOk rb w ⟨.mk c [] q.v [] [], (must 41 q.l q.z).l, (must 41 q.l q.z).z⟩) := by
  have hrb := h.pr.lt
  have hge := h.ge
  have hF1 : Fr nothing w (w.alloc (.cells #[.int .i64 0, .string ⟨#[]⟩, .slice none 0 0, .slice none 0 0, .slice none 0 0] 128)) := (Fr.refl _ w).alloc _
  have HRES : Hid (∀ w', Fr (at_ rb) (w.alloc (.cells #[.int .i64 0, .string ⟨#[]⟩, .slice none 0 0, .slice none 0 0, .slice none 0 0] 128)) w' → B5 w.heap.size (.int .i64 0) (.string ⟨#[]⟩) (.slice none 0 0) (.slice none 0 0) (.slice none 0 0) w') := fun w' hf => (B5.made w _ _ _ _ _ 128).fr hf (by show ¬ w.heap.size = rb; omega)
  have HD := hide (deep_any rb l 0 d _ (h.pr.fr hF1 id))
  have e0 : deepZ d 0 = 0 := by simp [deepZ]; omega
  rw [e0] at HD
  have hl := h.len
  have hl1 : l1.length ≤ l.length := by have := must_small 40 l 0; rw [hm] at this; exact this
  have hl2 : l2.length ≤ l1.length := by have := word_small l1 z1; rw [hw] at this; exact this
  have hvl : v.length ≤ 1500 := by
    have : v = (word l1 z1).v := by rw [hw]
    rw [this]
    exact Nat.le_trans (List.takeWhile_sublist _).length_le (Nat.le_trans (skip_len _) (by omega))
  have HMU : Hid (∀ w', Pr rb l 0 w' → Calls Tryd.prog 42 #[.pointer (some ⟨rb, 0, none⟩), .int .u8 40] w' fun r w'' => r = .returned (.tuple #[]) ∧ Pr rb l1 z1 w'' ∧ Fr (at_ rb) w' w'') := fun w' hp => by
    have := must_any rb l 0 40 w' hp hl (by decide)
    rw [hm] at this
    exact this
  have HWD : Hid (∀ w', Pr rb l1 z1 w' → Calls Tryd.prog 55 #[.pointer (some ⟨rb, 0, none⟩)] w' fun e w'' => e = .returned (.string (bs v)) ∧ Pr rb l2 z2 w'' ∧ Fr (at_ rb) w' w'') := fun w' hp => by
    have := word_any rb l1 z1 w' hp (by omega)
    rw [hw] at this
    exact this
  have HH := hide h
  have HONE := hide hone
  have HQ := hide hq
  have hwr : IntKind.i64.wrap (d + 1) = d + 1 := wrap_in _ (by omega) (by omega)
  obtain ⟨j0, hj0, hy0, hy1, hy2⟩ := info_parts sizeEx
  have i0 : (0 : Int) ≤ (c : Int) := by omega
  have i9 : (c : Int) < 10 := by omega
  have hc10 : c < 10 := by omega
  have hg2 : ([.int .i64 0, .int .i64 1, .int .i64 1, .int .i64 1, .int .i64 1, .int .i64 1, .int .i64 1, .int .i64 2, .int .i64 2, .int .i64 1] : List Value)[c]'(by simp; omega) = .int .i64 (argsOf c) := by
    have := argsV_get c hc10
    rw [List.getElem?_toArray, List.getElem?_eq_getElem (by simp; omega)] at this
    exact Option.some.inj this
  have q0 : ¬ (c : Int) = 0 := by omega
  have p0 : ((c : Int) == 0) = false := by simpa using q0
  have q1 : ¬ (c : Int) = 1 := by omega
  have p1 : ((c : Int) == 1) = false := by simpa using q1
  have q2 : ¬ (c : Int) = 2 := by omega
  have p2 : ((c : Int) == 2) = false := by simpa using q2
  have q3 : ¬ (c : Int) = 3 := by omega
  have p3 : ((c : Int) == 3) = false := by simpa using q3
  have q4 : ¬ (c : Int) = 4 := by omega
  have p4 : ((c : Int) == 4) = false := by simpa using q4
  clear h e0 hm hw hone hq hF1
  go_enter Tryd.func58, Tryd.ntmps58
  go_wp2_with (first
    | (go_at_call 64; refine HD.out.mono ?_; rintro e wd ⟨rfl, hp, hf⟩; have HPD := hide hp; have HFD := hide hf; clear hp hf)
    | (go_at_call 42; refine (HMU.out _ HPD.out).mono ?_; rintro e wm ⟨rfl, hp, hf⟩; have HPM := hide hp; have HFM := hide (HFD.out.trans hf); clear hp hf)
    | (go_at_call 55; refine (HWD.out _ HPM.out).mono ?_; rintro e w5 ⟨rfl, hp, hf⟩; have HP5 := hide hp; have HF5 := hide (HFM.out.trans hf); obtain ⟨m1, m2, m3, m4, m5, m6, m7, m8, m9, r1, r2, r3, r4, r5, r6, r7, r8, r9, rl, hfm, hlm⟩ := kinds_run w5 v hvl; rw [hc] at rl; have hmm := @run_makeMap Tryd.prog; have hix : ((m9.alloc (.cells #[.int .i64 c, .string ⟨#[]⟩, .slice none 0 0, .slice none 0 0, .slice none 0 0] 128)).alloc (.cells #[.int .i64 0, .int .i64 1, .int .i64 1, .int .i64 1, .int .i64 1, .int .i64 1, .int .i64 1, .int .i64 2, .int .i64 2, .int .i64 1] 3)).cell? ⟨m9.heap.size + 1, c, none⟩ = some (.int .i64 (argsOf c)) := (by first | (rw [World.cell?_alloc_new]; exact argsV_get c hc10) | (rw [show m9.heap.size + 1 = (m9.alloc (.cells #[.int .i64 c, .string ⟨#[]⟩, .slice none 0 0, .slice none 0 0, .slice none 0 0] 128)).heap.size by simp, World.cell?_alloc_new]; exact argsV_get c hc10)); have HFM9 := hide (HF5.out.trans (w0_fr hfm rb)); have HPM9 := hide (hp.fr hfm id); clear hp hf hfm)
    )
  have HBS := hide (B5.made m9 (.int .i64 c) (.string (bs [])) (.slice none 0 0) (.slice none 0 0) (.slice none 0 0) 128)
  have HFS := hide (HFM9.out.alloc (.cells #[.int .i64 c, .string ⟨#[]⟩, .slice none 0 0, .slice none 0 0, .slice none 0 0] 128))
  have HPS := hide (HPM9.out.fr ((Fr.refl nothing m9).alloc (.cells #[.int .i64 c, .string ⟨#[]⟩, .slice none 0 0, .slice none 0 0, .slice none 0 0] 128)) id)
  have HBW : Hid (w.heap.size < m9.heap.size) := by show _ < _; have := HFM9.out.size; simp at this; omega
  have hB0 : B5 m9.heap.size (.int .i64 c) (.string (bs [])) (.slice none 0 0) (.slice none 0 0) (.slice none 0 0) ((m9.alloc (.cells #[.int .i64 c, .string ⟨#[]⟩, .slice none 0 0, .slice none 0 0, .slice none 0 0] 128)).alloc (.cells #[.int .i64 0, .int .i64 1, .int .i64 1, .int .i64 1, .int .i64 1, .int .i64 1, .int .i64 1, .int .i64 2, .int .i64 2, .int .i64 1] 3)) := HBS.out.fr (S := nothing) ((Fr.refl nothing _).alloc _) id
  have hF0 : Fr (at_ rb) (w.alloc (.cells #[.int .i64 0, .string ⟨#[]⟩, .slice none 0 0, .slice none 0 0, .slice none 0 0] 128)) ((m9.alloc (.cells #[.int .i64 c, .string ⟨#[]⟩, .slice none 0 0, .slice none 0 0, .slice none 0 0] 128)).alloc (.cells #[.int .i64 0, .int .i64 1, .int .i64 1, .int .i64 1, .int .i64 1, .int .i64 1, .int .i64 1, .int .i64 2, .int .i64 2, .int .i64 1] 3)) := HFS.out.alloc _
  have hP0 : Pw w0 rb l2 z2 ((m9.alloc (.cells #[.int .i64 c, .string ⟨#[]⟩, .slice none 0 0, .slice none 0 0, .slice none 0 0] 128)).alloc (.cells #[.int .i64 0, .int .i64 1, .int .i64 1, .int .i64 1, .int .i64 1, .int .i64 1, .int .i64 1, .int .i64 2, .int .i64 2, .int .i64 1] 3)) := HH.out.of (HPS.out.fr ((Fr.refl nothing _).alloc _) id) (by omega) (((Fr.refl (at_ rb) w).alloc _).trans hF0)
  have hJ0 : JL w0 rb 131 4 encE ExOk ((m9.alloc (.cells #[.int .i64 c, .string ⟨#[]⟩, .slice none 0 0, .slice none 0 0, .slice none 0 0] 128)).alloc (.cells #[.int .i64 0, .int .i64 1, .int .i64 1, .int .i64 1, .int .i64 1, .int .i64 1, .int .i64 1, .int .i64 2, .int .i64 2, .int .i64 1] 3)) m9.heap.size 2 [] l2 z2 ((m9.alloc (.cells #[.int .i64 c, .string ⟨#[]⟩, .slice none 0 0, .slice none 0 0, .slice none 0 0] 128)).alloc (.cells #[.int .i64 0, .int .i64 1, .int .i64 1, .int .i64 1, .int .i64 1, .int .i64 1, .int .i64 1, .int .i64 2, .int .i64 2, .int .i64 1] 3)) :=
    { pw := hP0, fr := Fr.refl _ _, fz := fun _ => rfl, old := fun _ _ => rfl, le := fun _ => by have := hP0.len; simpa using this, row := ⟨nilS, hB0.c2, Row.nil _ (Nat.le_refl _)⟩ }
  have hrb1 : rb < ((m9.alloc (.cells #[.int .i64 c, .string ⟨#[]⟩, .slice none 0 0, .slice none 0 0, .slice none 0 0] 128)).alloc (.cells #[.int .i64 0, .int .i64 1, .int .i64 1, .int .i64 1, .int .i64 1, .int .i64 1, .int .i64 1, .int .i64 2, .int .i64 2, .int .i64 1] 3)).heap.size := hP0.pr.lt
  have hbx : m9.heap.size < ((m9.alloc (.cells #[.int .i64 c, .string ⟨#[]⟩, .slice none 0 0, .slice none 0 0, .slice none 0 0] 128)).alloc (.cells #[.int .i64 0, .int .i64 1, .int .i64 1, .int .i64 1, .int .i64 1, .int .i64 1, .int .i64 1, .int .i64 2, .int .i64 2, .int .i64 1] 3)).heap.size := hB0.lt
  have hbw : w.heap.size < m9.heap.size := HBW.out
  have hfz1 := hB0.f 2
  have hw01 : w0.heap.size ≤ m9.heap.size ∧ w0.heap.size ≤ ((m9.alloc (.cells #[.int .i64 c, .string ⟨#[]⟩, .slice none 0 0, .slice none 0 0, .slice none 0 0] 128)).alloc (.cells #[.int .i64 0, .int .i64 1, .int .i64 1, .int .i64 1, .int .i64 1, .int .i64 1, .int .i64 1, .int .i64 2, .int .i64 2, .int .i64 1] 3)).heap.size := ⟨by omega, hP0.bel.size⟩
  have hne : m9.heap.size ≠ rb := by omega
  have HJ0 := hide hJ0
  have HB1 := hide hB0
  have HF1 := hide hF0
  clear hJ0 hB0 hF0 hP0
  generalize hw1 : ((m9.alloc (.cells #[.int .i64 c, .string ⟨#[]⟩, .slice none 0 0, .slice none 0 0, .slice none 0 0] 128)).alloc (.cells #[.int .i64 0, .int .i64 1, .int .i64 1, .int .i64 1, .int .i64 1, .int .i64 1, .int .i64 1, .int .i64 2, .int .i64 2, .int .i64 1] 3)) = w1 at *
  clear hw1
  generalize hbs : m9.heap.size = bs1 at *
  clear hbs
  go_loopw [40] (fun i wr => ∃ (j : Nat) (acc : List Ex) (lq : Bs) (zq : Int), j ≤ argsOf c ∧ i = .int .i64 j ∧ acc.length = j ∧ Hid (JL w0 rb 131 4 encE ExOk w1 bs1 2 acc lq zq wr ∧ q = (times one (argsOf c - j) lq zq).after acc)) (fun i _ => argsOf c - (intOf i).toNat)
  case atStart => exact ⟨0, [], _, _, Nat.zero_le _, rfl, rfl, HJ0.out, by rw [after_nil]; exact HQ.out.symm⟩
  case round =>
    obtain ⟨j, acc, lq, zq, hj, rfl, hacc, hR⟩ := hrel
    subst hacc
    by_cases hjn : acc.length < argsOf c
    · have hJ := hR.out.1
      obtain ⟨⟨va, vn, vc⟩, hx3, hrow⟩ := hJ.row
      obtain rfl : vn = acc.length := by
        obtain ⟨a, c, h⟩ := hrow.shape
        cases h; rfl
      have hsz1 := hJ.fr.size
      have l3 : bs1 < wr.heap.size := by omega
      have fx : wr.frozen? ⟨bs1, 2, none⟩ = false := (hJ.fz 2).trans hfz1
      have HC := hide (HONE.out lq zq wr.drew (hJ.pw.fr (Fr.refl nothing wr).drew id (fun k e => e.elim)))
      have HJ := hide hJ
      have HR := hide hrow
      have HTS := hide (times_step one hjn lq zq)
      have HLE : Hid ((one lq zq).z = 0 → acc.length + 1 + (one lq zq).l.length ≤ 1500) := fun h0 => by
        by_cases hz : zq = 0
        · subst hz
          have h1 := hJ.le rfl
          have h2 := hless lq h0
          omega
        · exact absurd ((hkeeps lq zq hz).symm.trans h0) hz
      have frame : ∀ w', Fr (at_ rb) wr w' → w'.cell? ⟨bs1, 2, none⟩ = some (.slice va acc.length vc) := fun w' hf => (hf.cell (p := ⟨bs1, 2, none⟩) l3 (by show ¬ bs1 = rb; omega)).trans hx3
      have HFR := hide frame
      have hac2 : acc.length ≤ 2 := by have := argsOf_le c; omega
      clear hJ hrow frame
      go_wp2_with fail
      refine wp_region_T (S := fun w' => w'.cell? ⟨bs1, 2, none⟩ = some (.slice va acc.length vc)) (by kernel_rfl) [9] ?_ (fun hHeld => ?_)
      · exact hx3
      refine wpAnyT_take (i := 0) (oi := { dst := some 42, op := Op.fieldAddr 128 (Operand.tmp 7) 2, type := 0, pos := "ref.go:445", after := #[], guard := none }) (v := ?v1) rfl (by kernel_rfl) (by kernel_rfl) (by kernel_rfl) (by kernel_rfl) (by kernel_rfl) (fun _ _ _ h => h) (Or.inl ⟨by rfl, ?hy1⟩) (by assumption) ?rest1
      case hy1 => (intro w hSw; (try dsimp only at hSw); go_simp; try with_reducible rfl)
      try simp only [Act.put, List.setIfInBounds_toArray, List.set_cons_zero, List.set_cons_succ]
      refine wpAnyT_take (i := 1) (oi := { dst := some 43, op := Op.load 126 (Operand.tmp 42), type := 126, pos := "ref.go:445", after := #[{ on := 0, ground := Ground.data }], guard := none }) (v := ?v2) rfl (by kernel_rfl) (by kernel_rfl) (by kernel_rfl) (by kernel_rfl) (by kernel_rfl) (fun _ _ _ h => h) (Or.inl ⟨by rfl, ?hy2⟩) (by assumption) ?rest2
      case hy2 => (intro w hSw; (try dsimp only at hSw); go_simp; try with_reducible rfl)
      try simp only [Act.put, List.setIfInBounds_toArray, List.set_cons_zero, List.set_cons_succ]
      refine wpAnyT_take (i := 2) (oi := { dst := some 44, op := Op.move (Operand.tmp 0), type := 105, pos := "ref.go:445", after := #[], guard := none }) (v := ?v3) rfl (by kernel_rfl) (by kernel_rfl) (by kernel_rfl) (by kernel_rfl) (by kernel_rfl) (fun _ _ _ h => h) (Or.inl ⟨by rfl, ?hy3⟩) (by assumption) ?rest3
      case hy3 => (intro w hSw; (try dsimp only at hSw); go_simp; try with_reducible rfl)
      try simp only [Act.put, List.setIfInBounds_toArray, List.set_cons_zero, List.set_cons_succ]
      refine wpAnyT_take (i := 3) (oi := { dst := some 45, op := Op.move (Operand.tmp 1), type := 3, pos := "ref.go:445", after := #[], guard := none }) (v := ?v4) rfl (by kernel_rfl) (by kernel_rfl) (by kernel_rfl) (by kernel_rfl) (by kernel_rfl) (fun _ _ _ h => h) (Or.inl ⟨by rfl, ?hy4⟩) (by assumption) ?rest4
      case hy4 => (intro w hSw; (try dsimp only at hSw); go_simp; try with_reducible rfl)
      try simp only [Act.put, List.setIfInBounds_toArray, List.set_cons_zero, List.set_cons_succ]
      refine wpAnyT_take (i := 4) (oi := { dst := some 46, op := Op.binOp BinOp.add 3 (Operand.tmp 45) (Operand.const (Value.int IntKind.i64 1)) 3, type := 3, pos := "ref.go:445", after := #[{ on := 3, ground := Ground.data }], guard := none }) (v := ?v5) rfl (by kernel_rfl) (by kernel_rfl) (by kernel_rfl) (by kernel_rfl) (by kernel_rfl) (fun _ _ _ h => h) (Or.inl ⟨by rfl, ?hy5⟩) (by assumption) ?rest5
      case hy5 => (intro w hSw; (try dsimp only at hSw); go_simp; try with_reducible rfl)
      try simp only [Act.put, List.setIfInBounds_toArray, List.set_cons_zero, List.set_cons_succ]
      refine wpAnyT_ready (rs := [5]) (by kernel_rfl) (by simp) ?_
      refine AllReadyT.cons (o := { dst := some 47, op := Op.call { callee := Callee.value (Operand.func 65), args := #[Operand.tmp 44, Operand.tmp 46], argTypes := #[105, 3] }, type := 131, pos := "ref.go:445", after := #[{ on := 2, ground := Ground.data }, { on := 4, ground := Ground.data }], guard := none }) rfl (fun K hK => ?_) AllReadyT.nil
      refine step_call rfl 65 Tryd.f65 #[.tmp 44, .tmp 46] #[105, 3] rfl Tryd.func65 (by kernel_rfl) (by kernel_rfl) #[.pointer (some ⟨rb, 0, none⟩), .int .i64 (d + 1)] (by simp [Act.eval]) _ HC.out ?_
      rintro e w2 ⟨r, rfl, hF2, hP2, hx2⟩
      have F2 : Fr (at_ rb) wr w2 := ((Fr.refl _ wr).drew).trans hF2
      refine ⟨_, rfl, hK.out _ _ (HFR.out _ F2) ?_⟩
      clear hK K hHeld
      have hHeld := HFR.out _ F2
      try simp only [Act.put, List.setIfInBounds_toArray, List.set_cons_zero, List.set_cons_succ]
      refine wpAnyT_ready (rs := [6]) (by kernel_rfl) (by simp) ?_
      refine AllReadyT.cons (o := { dst := some 48, op := Op.buildSlice 126 1 #[(0, Operand.tmp 47)], type := 126, pos := "ref.go:445", after := #[{ on := 5, ground := Ground.data }], guard := none }) rfl (fun K hK => ?_) AllReadyT.nil
      go_simp
      refine hK.out _ _ (HFR.out _ (F2.alloc _)) ?_
      clear hK K hHeld
      have FA : Fr (at_ rb) wr (w2.alloc (.cells #[.int .i64 r.k, .int .i64 r.n, .string (bs r.t), .slice r.s.a r.s.n r.s.c] 131)) := F2.alloc _
      have hHeld := HFR.out _ FA
      try simp only [Act.put, List.setIfInBounds_toArray, List.set_cons_zero, List.set_cons_succ]
      have PA : Pr rb (one lq zq).l (one lq zq).z (w2.alloc (.cells #[.int .i64 r.k, .int .i64 r.n, .string (bs r.t), .slice r.s.a r.s.n r.s.c] 131)) := hP2.fr ((Fr.refl nothing w2).alloc _) id
      have XA : ExOk (w2.alloc (.cells #[.int .i64 r.k, .int .i64 r.n, .string (bs r.t), .slice r.s.a r.s.n r.s.c] 131)) (fun k => wr.heap.size ≤ k ∧ k < (w2.alloc (.cells #[.int .i64 r.k, .int .i64 r.n, .string (bs r.t), .slice r.s.a r.s.n r.s.c] 131)).heap.size) r (one lq zq).v := ex_stays _ _ nothing _ _ _ _ hx2 ((Fr.refl nothing w2).alloc _) (fun _ _ => id) (fun k hk => ⟨hk.1, by have := hk.2; simp; omega⟩)
      have NW : ∀ j u, ([.int .i64 r.k, .int .i64 r.n, .string (bs r.t), .slice r.s.a r.s.n r.s.c] : List Value)[j]? = some u → (w2.alloc (.cells #[.int .i64 r.k, .int .i64 r.n, .string (bs r.t), .slice r.s.a r.s.n r.s.c] 131)).cell? ((⟨w2.heap.size, 0, none⟩ : Addr).add j) = some u := World.news_of_block (cs := #[.int .i64 r.k, .int .i64 r.n, .string (bs r.t), .slice r.s.a r.s.n r.s.c]) (t := 131) (fr := (0, 0)) (heap_new _ _)
      have PW : Pw w0 rb (one lq zq).l (one lq zq).z (w2.alloc (.cells #[.int .i64 r.k, .int .i64 r.n, .string (bs r.t), .slice r.s.a r.s.n r.s.c] 131)) := HJ.out.pw.of PA (hsmall lq zq) FA
      obtain ⟨rs, hown, hbase, heach⟩ := HR.out
      have hownA : (w2.alloc (.cells #[.int .i64 r.k, .int .i64 r.n, .string (bs r.t), .slice r.s.a r.s.n r.s.c] 131)).ownsRow w1.heap.size 131 4 (.slice va acc.length vc) acc.length (rs.flatMap encE) := owns_fr hown FA (fun k hk e => by have := (hown.lt k hk).1; have : k = rb := e; omega)
      have hbA : w1.heap.size ≤ (w2.alloc (.cells #[.int .i64 r.k, .int .i64 r.n, .string (bs r.t), .slice r.s.a r.s.n r.s.c] 131)).heap.size := Nat.le_trans hsz1 FA.size
      have OF := owns_far hownA (b := bs1) hbx
      have gx : bs1 < (w2.alloc (.cells #[.int .i64 r.k, .int .i64 r.n, .string (bs r.t), .slice r.s.a r.s.n r.s.c] 131)).heap.size := by omega
      have fxA : (w2.alloc (.cells #[.int .i64 r.k, .int .i64 r.n, .string (bs r.t), .slice r.s.a r.s.n r.s.c] 131)).frozen? ⟨bs1, 2, none⟩ = false := (FA.frozen (p := ⟨bs1, 2, none⟩) l3 (by show ¬ bs1 = rb; omega)).trans fx
      have HOA := hide hownA
      have HPW := hide PW
      have HXA := hide XA
      have HFA := hide FA
      clear heach hown hownA PW XA FA PA
      refine wpAnyT_ready (rs := [7]) (by kernel_rfl) (by simp) ?_
      refine AllReadyT.cons (o := { dst := some 49, op := Op.call { callee := Callee.builtin Builtin.append, args := #[Operand.tmp 43, Operand.tmp 48], argTypes := #[126, 126] }, type := 126, pos := "ref.go:445", after := #[{ on := 1, ground := Ground.data }, { on := 6, ground := Ground.data }, { on := 5, ground := Ground.chain }], guard := none }) rfl (fun K hK => ?_) AllReadyT.nil
      refine step_append_lies _ (by rfl) (.tmp 43) (.tmp 48) 126 (by rfl) w1.heap.size 131 j0 _ 4 56 Tryd.underlying126 hj0 hy0 hy1 hy2 rfl (by decide) (.slice va acc.length vc) acc.length _ (by simp [Act.eval]) HOA.out ⟨w2.heap.size, 0, none⟩ 1 1 [.int .i64 r.k, .int .i64 r.n, .string (bs r.t), .slice r.s.a r.s.n r.s.c] (by simp [Act.eval]) rfl NW (by simp [Value.oneCell']) (by decide) (by unfold maxLen; omega) (by omega) hbA _ rfl ?_
      intro g cp w6 hr6 hg6 hat6 hlt6
      have k3 : w6.cell? ⟨bs1, 2, none⟩ = some (.slice va acc.length vc) := (hg6.cell_far ⟨bs1, 2, none⟩ gx OF).trans hHeld
      have kz : w6.frozen? ⟨bs1, 2, none⟩ = false := (hg6.frozen_far ⟨bs1, 2, none⟩ gx OF).trans fxA
      have k6 : bs1 < w6.heap.size := by have := hg6.size; omega
      have HR6 := hide hr6
      have HG6 := hide hg6
      have HAT := hide hat6
      clear hr6 hg6 hat6 NW
      refine hK.out _ _ k3 ?_
      clear hK K hHeld
      have hHeld : w6.cell? ⟨bs1, 2, none⟩ = some (.slice va acc.length vc) := k3
      try simp only [Act.put, List.setIfInBounds_toArray, List.set_cons_zero, List.set_cons_succ]
      refine wpAnyT_take (i := 8) (oi := { dst := some 50, op := Op.fieldAddr 128 (Operand.tmp 7) 2, type := 0, pos := "ref.go:445", after := #[{ on := 0, ground := Ground.phase }, { on := 1, ground := Ground.phase }, { on := 2, ground := Ground.phase }, { on := 3, ground := Ground.phase }, { on := 4, ground := Ground.phase }, { on := 5, ground := Ground.phase }, { on := 6, ground := Ground.phase }, { on := 7, ground := Ground.phase }], guard := none }) (v := ?v6) rfl (by kernel_rfl) (by kernel_rfl) (by kernel_rfl) (by kernel_rfl) (by kernel_rfl) (fun _ _ _ h => h) (Or.inl ⟨by rfl, ?hy6⟩) (by assumption) ?rest6
      case hy6 => (intro w hSw; (try dsimp only at hSw); go_simp; try with_reducible rfl)
      try simp only [Act.put, List.setIfInBounds_toArray, List.set_cons_zero, List.set_cons_succ]
      refine wpAnyT_ready (rs := [9]) (by kernel_rfl) (by simp) ?_
      refine AllReadyT.last (o := { dst := none, op := Op.store 126 (Operand.tmp 50) (Operand.tmp 49), type := 0, pos := "ref.go:445", after := #[{ on := 8, ground := Ground.data }, { on := 7, ground := Ground.data }, { on := 7, ground := Ground.chain }, { on := 0, ground := Ground.phase }, { on := 1, ground := Ground.phase }, { on := 2, ground := Ground.phase }, { on := 3, ground := Ground.phase }, { on := 4, ground := Ground.phase }, { on := 5, ground := Ground.phase }, { on := 6, ground := Ground.phase }, { on := 7, ground := Ground.phase }], guard := none }) rfl (by kernel_rfl) (fun K hK => ?_) AllReadyT.nil
      go_simp
      refine hK.out _ _ ?_
      clear hK K
      try simp only [Act.put, List.setIfInBounds_toArray, List.set_cons_zero, List.set_cons_succ]
      refine wpAny_done (by kernel_rfl) ?_ _
      have HPU := hide (JL.pushz ex_stays encE_len hbx hrb1 hne hw01 (us := [.int .i64 r.k, .int .i64 r.n, .string (bs r.t), .slice r.s.a r.s.n r.s.c]) HJ.out HR.out HFA.out HPW.out HXA.out HLE.out HOA.out HR6.out HG6.out HAT.out (Nat.le_refl _) rfl rfl k3 (.inr (.inr ⟨rfl, rfl⟩)))
      go_wp2
      go_roundw
      case rel => exact ⟨acc.length + 1, acc ++ [(one lq zq).v], _, _, by omega, by go_num, by simp, HPU.out, by rw [hR.out.2, HTS.out, after_after]⟩
      case measure => simp [intOf]; omega
    · have hjn2 : argsOf c = acc.length := by omega
      have hJ := hR.out.1
      have hQ2 : q = ⟨acc, lq, zq⟩ := by
        have := hR.out.2
        rw [hjn2, Nat.sub_self] at this
        rw [this]
        simp [times, Rd.after]
      subst hQ2
      clear hjn2
      obtain ⟨⟨va, vn, vc⟩, hx3, hrow⟩ := hJ.row
      obtain ⟨rs, k1, k2, k3⟩ := hrow.done ex_stays encE_len (B := w1.heap.size) (Nat.le_refl _)
      have hGA : GOk encE 4 ExOk w1.heap.size wr ⟨va, vn, vc⟩ acc := ⟨rs, k1, k2, k3⟩
      have hsz1 := hJ.fr.size
      have hB1 : B5 bs1 (.int .i64 c) (.string (bs [])) (.slice va vn vc) (.slice none 0 0) (.slice none 0 0) wr :=
        ⟨(hJ.old 0 (by decide)).trans HB1.out.c0, (hJ.old 1 (by decide)).trans HB1.out.c1, hx3, (hJ.old 3 (by decide)).trans HB1.out.c3, (hJ.old 4 (by decide)).trans HB1.out.c4, fun j => (hJ.fz j).trans (HB1.out.f j), by omega⟩
      have hFR : Fr (at_ rb) (w.alloc (.cells #[.int .i64 0, .string ⟨#[]⟩, .slice none 0 0, .slice none 0 0, .slice none 0 0] 128)) wr := HF1.out.then hJ.fr (fun j hj e => by
        simp at hj
        rcases e with e | e
        · exact e
        · omega)
      have hPW := hJ.pw
      have HGA := hide hGA
      have HBB := hide hB1
      have HFR := hide hFR
      have HPW := hide hPW
      clear hR hx3 hrow k1 k2 k3 hGA hB1 hFR hPW hJ
      go_wp2_with (first
        | (go_at_call 42; refine (must_any rb lq zq 41 _ HPW.out.pr HPW.out.len (by decide)).mono ?_; rintro e wz ⟨rfl, hp, hf⟩; have hfz := HFR.out.trans hf; obtain ⟨y0, y1, y2, y3, y4, yf, yl⟩ := HRES.out _ hfz; obtain ⟨x0, x1, x2, x3, x4, xf, xl⟩ := HBB.out.fr hf (by show ¬ bs1 = rb; omega); have HPZ := hide hp; have HFZ := hide (((Fr.refl (at_ rb) w).alloc _).trans hfz); have HGZ := hide (HGA.out.fr ex_stays hf (fun k e => by have : k = rb := e; omega)); clear hp hf hfz))
      refine bodyPost_ret (v := sv ⟨c, [], ⟨va, vn, vc⟩, nilS, nilS⟩) (by simp [results, Tryd.results58, go_sem, y0, y1, y2, y3, y4, bs]) rfl ?_
      exact st_fin (B := w1.heap.size) hrb HFZ.out HPZ.out rfl (by omega) HGZ.out GOk.nil GOk.nil _ _ _ _ _
end Go.Proofs.YtpemfikdmkmgbaaDoor
end
section
/- The words of expressions, looked for one by one (no program). -/
namespace Go.Proofs.YtpemfikdmkmgbaaDoor
open Go.RowKit

def ops1 : List Bs := [[43], [45], [42], [60], [61]]
def ops2 : List Bs := [[99, 101, 108, 108], [108, 101, 102, 116], [114, 105, 103, 104, 116], [97, 115, 107], [104, 101, 114, 101], [103, 111]]
def wants2 : List Int := [2, 1, 1, 1, 0, 1]
structure Scan where
  k : Int
  n : Int
  t : Bs
  want : Int
def scan1 (v : Bs) (j : Nat) : Scan := if (ops1.take j).contains v then ⟨4, (ops1.idxOf v : Int) + 1, [], 2⟩ else ⟨11, 0, v, -1⟩
def scan2 (v : Bs) (j : Nat) : Scan := if (ops2.take j).contains v then ⟨5 + (ops2.idxOf v : Int), 0, [], wants2.getD (ops2.idxOf v) 0⟩ else scan1 v 5
def opsV (l : List Bs) : Array Value := (l.map fun v => Value.string (bs v)).toArray
theorem opsV_get (l : List Bs) (k : Nat) (h : k < l.length) : (opsV l)[k]? = some (.string (bs l[k])) := by
  unfold opsV
  rw [List.getElem?_toArray, List.getElem?_map, List.getElem?_eq_getElem h]
  rfl
theorem scan1_0 (v : Bs) : scan1 v 0 = ⟨11, 0, v, -1⟩ := rfl
theorem scan2_0 (v : Bs) : scan2 v 0 = scan1 v 5 := rfl
theorem ops1_idx : ∀ k (h : k < ops1.length), ops1.idxOf (ops1[k]'h) = k
  | 0, _ => rfl
  | 1, _ => rfl
  | 2, _ => rfl
  | 3, _ => rfl
  | 4, _ => rfl
  | n + 5, h => by have : ops1.length = 5 := rfl; omega
theorem ops2_idx : ∀ k (h : k < ops2.length), ops2.idxOf (ops2[k]'h) = k ∧ wants2.getD k 0 = wants2.getD (ops2.idxOf (ops2[k]'h)) 0
  | 0, _ => ⟨rfl, rfl⟩
  | 1, _ => ⟨rfl, rfl⟩
  | 2, _ => ⟨rfl, rfl⟩
  | 3, _ => ⟨rfl, rfl⟩
  | 4, _ => ⟨rfl, rfl⟩
  | 5, _ => ⟨rfl, rfl⟩
  | n + 6, h => by have : ops2.length = 6 := rfl; omega
theorem scan1_hit {k : Nat} (h : k < ops1.length) : scan1 (ops1[k]'h) (k + 1) = ⟨4, (k : Int) + 1, [], 2⟩ := by
  have h1 : (ops1.take (k + 1)).contains (ops1[k]'h) = true := by
    rw [List.take_succ_eq_append_getElem h, List.contains_append]
    simp
  unfold scan1
  rw [h1, ops1_idx k h]
  rfl
theorem scan1_miss {v : Bs} {k : Nat} (h : k < ops1.length) (hv : ¬ v = ops1[k]'h) : scan1 v (k + 1) = scan1 v k := by
  have h1 : (ops1.take (k + 1)).contains v = (ops1.take k).contains v := by
    rw [List.take_succ_eq_append_getElem h]
    simp only [List.contains_append, List.contains_cons, List.contains_nil, Bool.or_false]
    have : (v == ops1[k]'h) = false := by simpa using hv
    rw [this, Bool.or_false]
  unfold scan1
  rw [h1]
theorem scan2_hit {k : Nat} (h : k < ops2.length) : scan2 (ops2[k]'h) (k + 1) = ⟨5 + (k : Int), 0, [], wants2.getD k 0⟩ := by
  have h1 : (ops2.take (k + 1)).contains (ops2[k]'h) = true := by
    rw [List.take_succ_eq_append_getElem h, List.contains_append]
    simp
  unfold scan2
  rw [h1, (ops2_idx k h).1]
  rfl
theorem scan2_miss {v : Bs} {k : Nat} (h : k < ops2.length) (hv : ¬ v = ops2[k]'h) : scan2 v (k + 1) = scan2 v k := by
  have h1 : (ops2.take (k + 1)).contains v = (ops2.take k).contains v := by
    rw [List.take_succ_eq_append_getElem h]
    simp only [List.contains_append, List.contains_cons, List.contains_nil, Bool.or_false]
    have : (v == ops2[k]'h) = false := by simpa using hv
    rw [this, Bool.or_false]
  unfold scan2
  rw [h1]
def wantOf : Option Nat → Int
  | some n => n
  | none => -1
theorem scan2_6 (v : Bs) : scan2 v 6 = ⟨(formOf v).1, (formOf v).2.1, if (formOf v).2.2 = none then v else [], wantOf (formOf v).2.2⟩ := by
  by_cases h0 : v = [43]
  · subst h0; rfl
  by_cases h1 : v = [45]
  · subst h1; rfl
  by_cases h2 : v = [42]
  · subst h2; rfl
  by_cases h3 : v = [60]
  · subst h3; rfl
  by_cases h4 : v = [61]
  · subst h4; rfl
  by_cases h5 : v = [99, 101, 108, 108]
  · subst h5; rfl
  by_cases h6 : v = [108, 101, 102, 116]
  · subst h6; rfl
  by_cases h7 : v = [114, 105, 103, 104, 116]
  · subst h7; rfl
  by_cases h8 : v = [97, 115, 107]
  · subst h8; rfl
  by_cases h9 : v = [104, 101, 114, 101]
  · subst h9; rfl
  by_cases h10 : v = [103, 111]
  · subst h10; rfl
  have e : formOf v = (11, 0, none) := by
    unfold formOf
    rw [if_neg h0, if_neg h1, if_neg h2, if_neg h3, if_neg h4, if_neg h5, if_neg h6, if_neg h7, if_neg h8, if_neg h9, if_neg h10]
  have g1 : (ops1.take 5).contains v = false := by
    rw [List.contains_eq_any_beq, List.any_eq_false]
    intro x hx
    simp only [ops1, List.take_succ_cons, List.take_nil, List.mem_cons, List.not_mem_nil, or_false] at hx
    rcases hx with rfl | rfl | rfl | rfl | rfl <;> simp [*]
  have g2 : (ops2.take 6).contains v = false := by
    rw [List.contains_eq_any_beq, List.any_eq_false]
    intro x hx
    simp only [ops2, List.take_succ_cons, List.take_nil, List.mem_cons, List.not_mem_nil, or_false] at hx
    rcases hx with rfl | rfl | rfl | rfl | rfl | rfl <;> simp [*]
  unfold scan2 scan1
  rw [g1, g2, e]
  rfl
end Go.Proofs.YtpemfikdmkmgbaaDoor
end
section
/- An expression of others. -/
namespace Go.Proofs.YtpemfikdmkmgbaaDoor
open Go.RowKit

/-- The expression under way at block bx. -/
structure X4 (bx : Nat) (s : Scan) (a : Value) (w : World) : Prop where
  c0 : w.cell? ⟨bx, 0, none⟩ = some (.int .i64 s.k)
  c1 : w.cell? ⟨bx, 1, none⟩ = some (.int .i64 s.n)
  c2 : w.cell? ⟨bx, 2, none⟩ = some (.string (bs s.t))
  c3 : w.cell? ⟨bx, 3, none⟩ = some a
  f : ∀ j, w.frozen? ⟨bx, j, none⟩ = false
  lt : bx < w.heap.size
theorem X4.put {bx : Nat} {s : Scan} {a : Value} {w : World} (h : X4 bx s a w) (s' : Scan) (a' : Value) : X4 bx s' a' (putAll w bx 0 [.int .i64 s'.k, .int .i64 s'.n, .string (bs s'.t), a']) := by
  have hlt := h.lt
  refine ⟨?_, ?_, ?_, ?_, fun j => (putAll_frozen).trans (h.f j), by simpa [putAll, World.setCell] using hlt⟩
  · simp [putAll, go_sem, h.c0]
  · simp [putAll, go_sem, h.c1]
  · simp [putAll, go_sem, h.c2]
  · simp [putAll, go_sem, h.c3]
theorem X4.fr {bx : Nat} {s : Scan} {a : Value} {w w' : World} {S : Nat → Prop} (h : X4 bx s a w) (hf : Fr S w w') (hs : ¬ S bx) : X4 bx s a w' :=
  ⟨(hf.cell (p := ⟨bx, 0, none⟩) h.lt hs).trans h.c0, (hf.cell (p := ⟨bx, 1, none⟩) h.lt hs).trans h.c1, (hf.cell (p := ⟨bx, 2, none⟩) h.lt hs).trans h.c2, (hf.cell (p := ⟨bx, 3, none⟩) h.lt hs).trans h.c3, fun j => (hf.frozen (p := ⟨bx, j, none⟩) h.lt hs).trans (h.f j), Nat.lt_of_lt_of_le h.lt hf.size⟩
theorem wants2_get : ∀ k, k < 6 → (#[Value.int .i64 2, .int .i64 1, .int .i64 1, .int .i64 1, .int .i64 0, .int .i64 1] : Array Value)[k]? = some (.int .i64 (wants2.getD k 0))
  | 0, _ => rfl
  | 1, _ => rfl
  | 2, _ => rfl
  | 3, _ => rfl
  | 4, _ => rfl
  | 5, _ => rfl
  | n + 6, h => by omega
/-- The parts, gathered. -/
theorem until_parts (w0 : World) (rb : Nat) (d : Int) (one : Reader Ex) (N : Nat) (hN : 1502 ≤ N) (hless : Less one) (hsmall : Small one) (hd0 : 0 ≤ d) (hd : d ≤ 10)
    (hone : ∀ l w, Pw w0 rb l 0 w → Calls Tryd.prog 65 #[.pointer (some ⟨rb, 0, none⟩), .int .i64 (d + 1)] w (XPost ev ExOk rb w (one l 0)))
    (bp bd bx : Nat) (s : Scan) (l : Bs) (z : Int) (w1 : World) (hp : Pw w0 rb l z w1) (hx : X4 bx s (.slice none 0 0) w1) (hcp : w1.cell? ⟨bp, 0, none⟩ = some (.pointer (some ⟨rb, 0, none⟩))) (hcd : w1.cell? ⟨bd, 0, none⟩ = some (.int .i64 d))
    (hne : bp ≠ rb ∧ bp ≠ bx ∧ bd ≠ rb ∧ bd ≠ bx ∧ bx ≠ rb) (hw0 : w0.heap.size ≤ bx) :
    Calls Tryd.prog 44 #[.pointer (some ⟨rb, 0, none⟩), .func (.func 72) #[] #[.pointer (some ⟨bx, 0, none⟩), .pointer (some ⟨bp, 0, none⟩), .pointer (some ⟨bd, 0, none⟩)]] w1
      fun e w' => e = .returned (.tuple #[]) ∧ JL w0 rb 131 4 encE ExOk w1 bx 3 (until_ one N l z).v (until_ one N l z).l (until_ one N l z).z w' := by
  have hJ0 : JL w0 rb 131 4 encE ExOk w1 bx 3 [] l z w1 :=
    { pw := hp, fr := Fr.refl _ _, fz := fun _ => rfl, old := fun _ _ => rfl, le := fun _ => by have := hp.len; simpa using this, row := ⟨nilS, hx.c3, Row.nil _ (Nat.le_refl _)⟩ }
  have hw01 := hp.bel.size
  have hrb1 := hp.pr.lt
  have hbx1 := hx.lt
  exact until_E rb _ _ _ one (JL w0 rb 131 4 encE ExOk w1 bx 3) hless hsmall (fun acc l z w h => ⟨h.pw.pr, h.pw.len⟩)
    (fun acc l l' z z' w w' h hp hl hz hf => h.move ex_stays hbx1 hrb1 hne.2.2.2.2 hp hl hz hf)
    (fun acc l w h => clE w0 rb w1 bp bd bx d one acc l w hone hless hsmall hd0 (by omega) hcp hcd hbx1 hrb1 hne ⟨hw0, hw01⟩ (hx.f 3) h)
    N [] l z w1 hJ0 (by omega) (fun _ => by have := hp.len; omega)
/-- What came of it. -/
theorem formed_fin {w0 : World} {rb bx : Nat} {d : Int} {w wU w9 w10 : World} {s : Scan} {xs : List Ex} {l l2 : Bs} {z z2 : Int} {sl : Slc} (hrb : rb < w.heap.size) (hbx : w.heap.size + 1 + 1 < bx) (hFU : Fr (at_ rb) (w3of w rb d) wU) (hJ : JL w0 rb 131 4 encE ExOk wU bx 3 xs l z w9)
    (hc : w9.cell? ⟨bx, 3, none⟩ = some sl.v) (hF : Fr (at_ rb) w9 w10) (hP : Pr rb l2 z2 w10) (u0 u1 u2 u3 : Value) :
    XPost ev ExOk rb w ⟨.mk s.k s.n s.t xs, l2, z2⟩ (.returned (ev ⟨s.k, s.n, s.t, sl⟩)) ((((w10.setCell ⟨w.heap.size + 1 + 1, 0, none⟩ u0).setCell ⟨w.heap.size + 1 + 1, 1, none⟩ u1).setCell ⟨w.heap.size + 1 + 1, 2, none⟩ u2).setCell ⟨w.heap.size + 1 + 1, 3, none⟩ u3) := by
  obtain ⟨s', h1, h2⟩ := hJ.row
  have hUz := hFU.size
  simp at hUz
  obtain rfl : s' = sl := by
    rw [h1] at hc
    have e := Option.some.inj hc
    simp only [Value.slice.injEq] at e
    obtain ⟨a, b, c⟩ := s'
    obtain ⟨a', b', c'⟩ := sl
    simp only at e
    obtain ⟨rfl, rfl, rfl⟩ := e
    rfl
  have hf9 : Fr (at_ rb) (w3of w rb d) w10 := (hFU.then hJ.fr (fun j hj e => by
    simp at hj
    rcases e with e | e
    · exact e
    · omega)).trans hF
  have h3 := h2.fr ex_stays hF (fun k e => by have : k = rb := e; show k < _; omega)
  obtain ⟨rs, k1, k2, k3⟩ := h3.done ex_stays encE_len (B := w.heap.size + 1 + 1 + 1) (by omega)
  refine ex_fin (res := ⟨.mk s.k s.n s.t xs, l2, z2⟩) hrb hf9 hP (.mk _ _ _ _ rs xs k1 (fun b hb => by have := k2 b hb; omega) k3.1 (fun i r x a b => ex_stays _ _ nothing _ _ _ _ (k3.2 i r x a b) (Fr.refl nothing _) (fun _ _ => id) (fun k hk => by omega))) _ _ _ _
set_option maxHeartbeats 4000000 in
set_option maxRecDepth 20000 in
theorem expr_formed (w0 : World) (rb : Nat) (l : Bs) (d : Int) (w : World) (h : Pw w0 rb l 0 w) (hd0 : 0 ≤ d) (hd : d ≤ 10) {t : Bs} (hs : skip l = 40 :: t) (one : Reader Ex) (N : Nat) (hN : 1502 ≤ N) (hless : Less one) (hsmall : Small one)
    (hone : ∀ l w, Pw w0 rb l 0 w → Calls Tryd.prog 65 #[.pointer (some ⟨rb, 0, none⟩), .int .i64 (d + 1)] w (XPost ev ExOk rb w (one l 0))) :
    Calls Tryd.prog 65 #[.pointer (some ⟨rb, 0, none⟩), .int .i64 d] w (XPost ev ExOk rb w (formed (until_ one N) t 0)) := by
  have HD := hide (deep_any rb l 0 d _ (h.pr.fr (fr3 w rb d) (S := nothing) id))
  have hrb := h.pr.lt
  have e0 : deepZ d 0 = 0 := by simp [deepZ]; omega
  rw [e0] at HD
  have hl := h.len
  have htl : t.length + 1 ≤ l.length := by have := skip_len l; rw [hs] at this; simpa using this
  have HH := hide h
  have HS := hide hs
  have HONE := hide hone
  have hsz : (bs (40 :: t)).size = t.length + 1 := by rw [bs_size]; rfl
  obtain ⟨v, l1, z1, HWD⟩ : ∃ v l1 z1, Hid (word t 0 = ⟨v, l1, z1⟩) := ⟨_, _, _, rfl⟩
  clear h e0 hs hone
  go_enter Tryd.func65, Tryd.ntmps65
  go_wp2_with (first
    | (go_at_call 64; refine HD.out.mono ?_; rintro e w2 ⟨rfl, hp, hf⟩; have hpk := peek_any rb l 0 w2 hp hl; rw [HS.out, show ((peekC (40 :: t)).toNat : Int) = 40 from rfl] at hpk; have HPK := hide hpk; obtain ⟨b0, b1, -, -, -, -, -, -, -, -, hlt⟩ := boxes hrb hf; have HF := hide hf; clear hp hf hpk)
    | (go_at_call 41; refine HPK.out.mono ?_; rintro e w4 ⟨rfl, hp, hf⟩; have hf4 := HF.out.trans hf; clear b0 b1 hlt; obtain ⟨b0, b1, -, -, -, -, -, -, -, -, hlt⟩ := boxes hrb hf4; have s0 := hp.s; have g0 := hp.f0; have hl4 := hp.lt; have HP4 := hide hp; have HF4 := hide hf4; clear hp hf hf4))
  have hwd : ∀ w', Pr rb t 0 w' → Calls Tryd.prog 55 #[.pointer (some ⟨rb, 0, none⟩)] w' fun e w'' => e = .returned (.string (bs v)) ∧ Pr rb l1 z1 w'' ∧ Fr (at_ rb) w' w'' := fun w' hp => by
    have := word_any rb t 0 w' hp (by omega)
    rw [HWD.out] at this
    exact this
  have HWW := hide hwd
  clear hwd
  have HP6 := hide (HP4.out.put' (bs_tail 40 t (Nat.le_refl _))).drew
  have FF := hide (HF4.out.setCell (p := ⟨rb, 0, none⟩) (.inl rfl) (.string ((bs (40 :: t)).extract 1 (t.length + 1)))).drew
  go_region
  all_goals go_wp2_with (first
    | (go_at_call 55; refine (HWW.out _ HP6.out).mono ?_; rintro e w5 ⟨rfl, hp, hf⟩; have hf5 := FF.out.trans hf; clear b0 b1 hlt; obtain ⟨b0, b1, -, -, -, -, -, -, -, -, hlt⟩ := boxes hrb hf5; have HP5 := hide hp; have HF5 := hide hf5; clear hp hf hf5))
  have hw5 : w.heap.size + 1 + 1 < w5.heap.size := hlt
  have hX0 : X4 w5.heap.size (scan1 v 0) (.slice none 0 0) ((w5.alloc (.cells #[.int .i64 11, .int .i64 0, .string (bs v), .slice none 0 0] 131)).alloc (.cells (opsV ops1) 9)) := by
    have hn := made_cells (Fr.refl nothing (w5.alloc (.cells #[.int .i64 11, .int .i64 0, .string (bs v), .slice none 0 0] 131))) id
    exact X4.fr (S := nothing) ⟨hn.1 0, hn.1 1, hn.1 2, hn.1 3, hn.2.1, hn.2.2⟩ ((Fr.refl nothing _).alloc _) id
  have hO1 : ∀ k (hk : k < ops1.length), ((w5.alloc (.cells #[.int .i64 11, .int .i64 0, .string (bs v), .slice none 0 0] 131)).alloc (.cells (opsV ops1) 9)).cell? ⟨w5.heap.size + 1, k, none⟩ = some (.string (bs ops1[k])) := fun k hk => by
    rw [show w5.heap.size + 1 = (w5.alloc (.cells #[.int .i64 11, .int .i64 0, .string (bs v), .slice none 0 0] 131)).heap.size by simp, World.cell?_alloc_new]
    exact opsV_get ops1 k hk
  have hFL : Fr (at_ rb) (w3of w rb d) ((w5.alloc (.cells #[.int .i64 11, .int .i64 0, .string (bs v), .slice none 0 0] 131)).alloc (.cells (opsV ops1) 9)) := (HF5.out.alloc _).alloc _
  have hPL : Pr rb l1 z1 ((w5.alloc (.cells #[.int .i64 11, .int .i64 0, .string (bs v), .slice none 0 0] 131)).alloc (.cells (opsV ops1) 9)) := HP5.out.fr (((Fr.refl nothing w5).alloc _).alloc _) id
  have hsL : w5.heap.size + 1 < ((w5.alloc (.cells #[.int .i64 11, .int .i64 0, .string (bs v), .slice none 0 0] 131)).alloc (.cells (opsV ops1) 9)).heap.size := by simp
  have hb5 : rb < w5.heap.size := HP5.out.lt
  have e1 : (opsV ops1) = #[.string ⟨#[43]⟩, .string ⟨#[45]⟩, .string ⟨#[42]⟩, .string ⟨#[60]⟩, .string ⟨#[61]⟩] := rfl
  rw [e1] at hX0 hO1 hFL hPL hsL
  clear e1
  generalize hwL : ((w5.alloc (.cells #[.int .i64 11, .int .i64 0, .string (bs v), .slice none 0 0] 131)).alloc (.cells #[.string ⟨#[43]⟩, .string ⟨#[45]⟩, .string ⟨#[42]⟩, .string ⟨#[60]⟩, .string ⟨#[61]⟩] 9)) = wL at hX0 hO1 hFL hPL hsL ⊢
  clear hwL
  generalize hbx : w5.heap.size = bx at hX0 hO1 hsL hb5 hw5 ⊢
  clear hbx
  have HX0 := hide hX0
  have HO1 := hide hO1
  have HFL := hide hFL
  have HPL := hide hPL
  clear hX0 hO1 hFL hPL b0 b1 hlt HP5 HF5 HP6 FF HWW HP4 HF4 HPK HF s0 g0 hl4
  go_loopw [134, 13, 14, 15] (fun i want _ _ wr => ∃ k : Nat, k ≤ 5 ∧ i = .int .i64 k ∧ want = .int .i64 (scan1 v k).want ∧ Hid (X4 bx (scan1 v k) (.slice none 0 0) wr ∧ Fr (fun j => j = bx) wL wr)) (fun i _ _ _ _ => 5 - (intOf i).toNat)
  case atStart => exact ⟨0, Nat.zero_le _, rfl, rfl, HX0.out, Fr.refl _ _⟩
  case round =>
    obtain ⟨k, hk, rfl, rfl, hR⟩ := hrel
    by_cases hk5 : k < 5
    · have hko : k < ops1.length := hk5
      have o1 := (hR.out.2.cell (p := ⟨bx + 1, k, none⟩) hsL (by show ¬ bx + 1 = bx; omega)).trans (HO1.out k hko)
      have hlr : bx + 1 < wr.heap.size := Nat.lt_of_lt_of_le hsL hR.out.2.size
      by_cases hv : v = ops1[k]
      · have HH1 := hide (scan1_hit hko)
        rw [← hv] at HH1 o1
        have x0 := hR.out.1.c0
        have x1 := hR.out.1.c1
        have x2 := hR.out.1.c2
        have x3 := hR.out.1.c3
        have y0 := hR.out.1.f 0
        have y1 := hR.out.1.f 1
        have y2 := hR.out.1.f 2
        have y3 := hR.out.1.f 3
        clear hv
        go_wp2
        refine ⟨⟨k + 1, by omega, by go_num, by rw [HH1.out], ?_, ?_⟩, by simp [intOf]; omega⟩
        · rw [HH1.out]
          exact hR.out.1.put ⟨4, (k : Int) + 1, [], 2⟩ (.slice none 0 0)
        · exact Fr.putAll (us := [.int .i64 4, .int .i64 ((k : Int) + 1), .string ⟨#[]⟩, .slice none 0 0]) (o := 0) (g := bx) hR.out.2 (.inl rfl)
      · have q1 := bs_ne (fun e : ops1[k] = v => hv e.symm)
        have HM1 := hide (scan1_miss hko hv)
        go_wp2
        go_roundw
        case rel => exact ⟨k + 1, by omega, by go_num, by rw [HM1.out], by rw [HM1.out]; exact hR.out⟩
        case measure => simp [intOf]; omega
    · obtain rfl : k = 5 := by omega
      clear hk hk5
      have hX : X4 bx (scan2 v 0) (.slice none 0 0) (wr.alloc (.cells (opsV ops2) 9)) := X4.fr (S := nothing) hR.out.1 ((Fr.refl nothing _).alloc _) id
      have hO2 : ∀ k (hk : k < ops2.length), (wr.alloc (.cells (opsV ops2) 9)).cell? ⟨wr.heap.size, k, none⟩ = some (.string (bs ops2[k])) := fun k hk => by
        rw [World.cell?_alloc_new]
        exact opsV_get ops2 k hk
      have hFR : Fr (fun j => j = rb ∨ j = bx) wL (wr.alloc (.cells (opsV ops2) 9)) := (hR.out.2.mono (fun _ _ e => .inr e)).alloc _
      have hF2 : Fr (at_ rb) (w3of w rb d) (wr.alloc (.cells (opsV ops2) 9)) := (HFL.out.then hR.out.2 (fun j hj e => by have : j = bx := e; simp at hj; omega)).alloc _
      have hP2 : Pr rb l1 z1 (wr.alloc (.cells (opsV ops2) 9)) := (HPL.out.fr hR.out.2 (by show ¬ rb = bx; omega)).fr ((Fr.refl nothing _).alloc _) id
      have hs2 : wr.heap.size < (wr.alloc (.cells (opsV ops2) 9)).heap.size := by simp
      have hbw : bx < wr.heap.size := hR.out.1.lt
      have hwant : Hid ((scan1 v 5).want = (scan2 v 0).want) := rfl
      have e1 : (opsV ops2) = #[.string ⟨#[99, 101, 108, 108]⟩, .string ⟨#[108, 101, 102, 116]⟩, .string ⟨#[114, 105, 103, 104, 116]⟩, .string ⟨#[97, 115, 107]⟩, .string ⟨#[104, 101, 114, 101]⟩, .string ⟨#[103, 111]⟩] := rfl
      rw [e1] at hX hO2 hFR hF2 hP2 hs2
      clear e1
      go_wp2
      generalize hwM : (wr.alloc (.cells #[.string ⟨#[99, 101, 108, 108]⟩, .string ⟨#[108, 101, 102, 116]⟩, .string ⟨#[114, 105, 103, 104, 116]⟩, .string ⟨#[97, 115, 107]⟩, .string ⟨#[104, 101, 114, 101]⟩, .string ⟨#[103, 111]⟩] 9)) = wM at hX hO2 hFR hF2 hP2 hs2 ⊢
      clear hwM
      generalize hb2 : wr.heap.size = b2 at hO2 hs2 hbw ⊢
      clear hb2
      have HX := hide hX
      have HO2 := hide hO2
      have HF2 := hide hF2
      have HP2 := hide hP2
      clear hX hO2 hFR hF2 hP2 hR HX0 HO1 HFL HPL
      go_loopw [148, 13, 16, 17] (fun i want _ _ ws => ∃ k : Nat, k ≤ 6 ∧ i = .int .i64 k ∧ want = .int .i64 (scan2 v k).want ∧ Hid (X4 bx (scan2 v k) (.slice none 0 0) ws ∧ Fr (fun j => j = bx) wM ws)) (fun i _ _ _ _ => 6 - (intOf i).toNat)
      case atStart => exact ⟨0, Nat.zero_le _, rfl, by rw [hwant.out], HX.out, Fr.refl _ _⟩
      case round =>
        obtain ⟨k, hk, rfl, rfl, hR⟩ := hrel
        by_cases hk5 : k < 6
        · have hko : k < ops2.length := hk5
          have o1 := (hR.out.2.cell (p := ⟨b2, k, none⟩) hs2 (by show ¬ b2 = bx; omega)).trans (HO2.out k hko)
          have hlr : b2 < wr.heap.size := Nat.lt_of_lt_of_le hs2 hR.out.2.size
          by_cases hv : v = ops2[k]
          · have HH1 := hide (scan2_hit hko)
            rw [← hv] at HH1 o1
            have x0 := hR.out.1.c0
            have x1 := hR.out.1.c1
            have x2 := hR.out.1.c2
            have x3 := hR.out.1.c3
            have y0 := hR.out.1.f 0
            have y1 := hR.out.1.f 1
            have y2 := hR.out.1.f 2
            have y3 := hR.out.1.f 3
            clear hv
            have hbr : bx < wr.heap.size := by omega
            have hw2 : (wr.alloc (.cells #[.int .i64 2, .int .i64 1, .int .i64 1, .int .i64 1, .int .i64 0, .int .i64 1] 3)).cell? ⟨wr.heap.size, k, none⟩ = some (.int .i64 (wants2.getD k 0)) := by
              rw [World.cell?_alloc_new]
              exact wants2_get k hk5
            have hg2 : ([Value.int .i64 2, .int .i64 1, .int .i64 1, .int .i64 1, .int .i64 0, .int .i64 1] : List Value)[k]'(by simp; omega) = .int .i64 (wants2.getD k 0) := by
              have := wants2_get k hk5
              rw [List.getElem?_toArray, List.getElem?_eq_getElem (by simp; omega)] at this
              exact Option.some.inj this
            generalize wants2.getD k 0 = wk at hw2 HH1 hg2
            have i0 : (0 : Int) ≤ (k : Int) := by omega
            have i6 : (k : Int) < 6 := by omega
            go_wp2_with fail
            go_region
            all_goals go_wp2
            all_goals refine ⟨⟨k + 1, by omega, by go_num, by first | rw [HH1.out] | (rw [hg2, HH1.out]), ?_, ?_⟩, by simp [intOf]; omega⟩
            all_goals first
              | exact Fr.drew (Fr.alloc (Fr.putAll (us := [.int .i64 (5 + (k : Int)), .int .i64 0, .string ⟨#[]⟩, .slice none 0 0]) (o := 0) (g := bx) hR.out.2 (.inl rfl)) _)
              | (rw [HH1.out]; exact (hR.out.1.put ⟨5 + (k : Int), 0, [], wk⟩ (.slice none 0 0)).fr (S := nothing) ((Fr.refl nothing _).alloc _).drew id)
          · have q1 := bs_ne (fun e : ops2[k] = v => hv e.symm)
            have HM1 := hide (scan2_miss hko hv)
            go_wp2
            go_roundw
            case rel => exact ⟨k + 1, by omega, by go_num, by rw [HM1.out], by rw [HM1.out]; exact hR.out⟩
            case measure => simp [intOf]; omega
        · obtain rfl : k = 6 := by omega
          clear hk hk5
          have hFr : Fr (at_ rb) (w3of w rb d) wr := HF2.out.then hR.out.2 (fun j hj e => by have : j = bx := e; simp at hj; omega)
          have hPr : Pr rb l1 z1 wr := HP2.out.fr hR.out.2 (by show ¬ rb = bx; omega)
          have hXr := hR.out.1
          have hsm : l1.length ≤ t.length := by have := word_small t 0; rw [HWD.out] at this; exact this
          have UN : Hid (∀ wU z2 q, until_ one N l1 z2 = q → Fr (at_ rb) (w3of w rb d) wU → Pr rb l1 z2 wU → X4 bx (scan2 v 6) (.slice none 0 0) wU → Calls Tryd.prog 44 #[.pointer (some ⟨rb, 0, none⟩), .func (.func 72) #[] #[.pointer (some ⟨bx, 0, none⟩), .pointer (some ⟨w.heap.size, 0, none⟩), .pointer (some ⟨w.heap.size + 1, 0, none⟩)]] wU
              fun e w' => e = .returned (.tuple #[]) ∧ JL w0 rb 131 4 encE ExOk wU bx 3 q.v q.l q.z w') := fun wU z2 q hq hf hp hx => by
            subst hq
            obtain ⟨q0, q1, -⟩ := boxes hrb hf
            have hge := HH.out.ge
            exact until_parts w0 rb d one N hN hless hsmall hd0 hd HONE.out w.heap.size (w.heap.size + 1) bx (scan2 v 6) l1 z2 wU (HH.out.of hp (by omega) ((fr3 w rb d).trans hf)) hx q0 q1 ⟨by omega, by omega, by omega, by omega, by omega⟩ (by omega)
          have e6 := scan2_6 v
          have HFr := hide hFr
          have HPr := hide hPr
          have HXr := hide hXr
          obtain ⟨b0, b1, -, -, -, -, -, -, -, -, hlt⟩ := boxes hrb hFr
          have hrbr : rb < wr.heap.size := hPr.lt
          have hRES : Hid (∀ z2 q, headZ v z1 = z2 → until_ one N l1 z2 = q → formed (until_ one N) t 0 = ⟨.mk (scan2 v 6).k (scan2 v 6).n (scan2 v 6).t q.v, q.l, if manyBad v q.v.length then bad q.z 5 else q.z⟩) := fun z2 q hz2 hq => by
            unfold formed
            simp only [HWD.out, hz2, hq]
            rw [e6]
            rfl
          have HNM := hide (fun w => name_any v w (by
            have : v = (word t 0).v := by rw [HWD.out]
            rw [this]
            exact Nat.le_trans (List.takeWhile_sublist _).length_le (Nat.le_trans (skip_len _) (by omega))))
          have hwn : (scan2 v 6).want = wantOf (formOf v).2.2 := by rw [e6]
          rw [hwn]
          clear hFr hPr hXr e6 hwn hR HX HO2 HF2 HP2
          cases hfm : (formOf v).2.2 with
          | some n =>
            have hz2 : headZ v z1 = z1 := by simp [headZ, hfm]
            obtain ⟨q, hq⟩ : ∃ q, until_ one N l1 z1 = q := ⟨_, rfl⟩
            have HQ := hide hq
            have RES := hide (hRES.out z1 q hz2 hq)
            have hmb : manyBad v q.v.length = decide (q.v.length ≠ n) := by simp [manyBad, hfm]
            have hn0 : (0 : Int) ≤ (n : Int) := by omega
            have hn1 : ¬ (n : Int) < 0 := by omega
            clear hz2 hq hfm
            simp only [wantOf]
            by_cases hm : q.v.length = n
            · rw [show manyBad v q.v.length = false by rw [hmb]; simp [hm]] at RES
              simp only [Bool.false_eq_true, if_false] at RES
              have hm1 : (q.v.length : Int) = (n : Int) := by omega
              have hm2 : ((q.v.length : Int) != (n : Int)) = false := by simpa using hm1
              clear hmb hm
              clear hm1
              go_wp2_with (first
                | (go_at_call 44; refine (UN.out _ _ _ HQ.out HFr.out HPr.out HXr.out).mono ?_; rintro e w9 ⟨rfl, hj⟩; obtain ⟨⟨sa, sn, sc⟩, hc3, hrow⟩ := hj.row; obtain rfl : sn = q.v.length := (by obtain ⟨a, c, h⟩ := hrow.shape; cases h; rfl); have hf9 : Fr (at_ rb) (w3of w rb d) w9 := HFr.out.then hj.fr (fun j hj e => by simp at hj; rcases e with e | e; exact e; omega); have x0 := (hj.old 0 (by decide)).trans HXr.out.c0; have x1 := (hj.old 1 (by decide)).trans HXr.out.c1; have x2 := (hj.old 2 (by decide)).trans HXr.out.c2; have hb9 : bx < w9.heap.size := Nat.lt_of_lt_of_le HXr.out.lt hj.fr.size; have hq9 := hj.le; have hpl := hj.pw.pr.lt; clear b0 b1 hlt; obtain ⟨b0, b1, c0, c1, c2, c3, f0, f1, f2, f3, hlt⟩ := boxes hrb hf9; have HJ9 := hide hj; have HC3 := hide hc3; have HF9 := hide hf9; clear hj hrow hf9 hq9))
              refine bodyPost_ret (v := ev ⟨(scan2 v 6).k, (scan2 v 6).n, (scan2 v 6).t, ⟨sa, q.v.length, sc⟩⟩) (by simp [results, Tryd.results65, go_sem, c0, c1, c2, c3]) rfl ?_
              rw [RES.out]
              exact formed_fin hrb (by omega) HFr.out HJ9.out HC3.out (Fr.refl _ _) HJ9.out.pw.pr _ _ _ _
            · rw [show manyBad v q.v.length = true by rw [hmb]; simp [hm]] at RES
              simp only [if_true] at RES
              have hm1 : ¬ (q.v.length : Int) = (n : Int) := by omega
              have hm2 := ne_bne hm1
              clear hmb hm
              go_wp2_with (first
                | (go_at_call 44; refine (UN.out _ _ _ HQ.out HFr.out HPr.out HXr.out).mono ?_; rintro e w9 ⟨rfl, hj⟩; obtain ⟨⟨sa, sn, sc⟩, hc3, hrow⟩ := hj.row; obtain rfl : sn = q.v.length := (by obtain ⟨a, c, h⟩ := hrow.shape; cases h; rfl); have hf9 : Fr (at_ rb) (w3of w rb d) w9 := HFr.out.then hj.fr (fun j hj e => by simp at hj; rcases e with e | e; exact e; omega); have x0 := (hj.old 0 (by decide)).trans HXr.out.c0; have x1 := (hj.old 1 (by decide)).trans HXr.out.c1; have x2 := (hj.old 2 (by decide)).trans HXr.out.c2; have hb9 : bx < w9.heap.size := Nat.lt_of_lt_of_le HXr.out.lt hj.fr.size; have hq9 := hj.le; have hpl := hj.pw.pr.lt; clear b0 b1 hlt; obtain ⟨b0, b1, c0, c1, c2, c3, f0, f1, f2, f3, hlt⟩ := boxes hrb hf9; have HJ9 := hide hj; have HC3 := hide hc3; have HF9 := hide hf9; clear hj hrow hf9 hq9)
                | (go_at_call 54; refine (bad_any rb q.l q.z 5 _ HJ9.out.pw.pr).mono ?_; rintro e w10 ⟨rfl, hp, hf⟩; have hf10 := HF9.out.trans hf; replace x0 := (hf.cell (p := ⟨bx, 0, none⟩) hb9 (by show ¬ bx = rb; omega)).trans x0; replace x1 := (hf.cell (p := ⟨bx, 1, none⟩) hb9 (by show ¬ bx = rb; omega)).trans x1; replace x2 := (hf.cell (p := ⟨bx, 2, none⟩) hb9 (by show ¬ bx = rb; omega)).trans x2; replace hc3 := (hf.cell (p := ⟨bx, 3, none⟩) hb9 (by show ¬ bx = rb; omega)).trans hc3; replace hb9 := Nat.lt_of_lt_of_le hb9 hf.size; clear b0 b1 c0 c1 c2 c3 f0 f1 f2 f3 hlt; obtain ⟨b0, b1, c0, c1, c2, c3, f0, f1, f2, f3, hlt⟩ := boxes hrb hf10; have HP10 := hide hp; have HF10 := hide hf; clear hp hf hf10))
              refine bodyPost_ret (v := ev ⟨(scan2 v 6).k, (scan2 v 6).n, (scan2 v 6).t, ⟨sa, q.v.length, sc⟩⟩) (by simp [results, Tryd.results65, go_sem, c0, c1, c2, c3]) rfl ?_
              rw [RES.out]
              exact formed_fin hrb (by omega) HFr.out HJ9.out HC3.out HF10.out HP10.out _ _ _ _
          | none =>
            have hz2 : headZ v z1 = if isName v = false then bad z1 7 else z1 := by simp [headZ, hfm]
            have hmb : ∀ n, manyBad v n = decide (4 < n) := fun n => by simp [manyBad, hfm]
            simp only [wantOf]
            clear hfm
            cases hnm : isName v with
            | true =>
              rw [hnm] at hz2 HNM
              obtain ⟨q, hq⟩ : ∃ q, until_ one N l1 (z1) = q := ⟨_, rfl⟩
              have HQ := hide hq
              have RES := hide (hRES.out (z1) q (by rw [hz2]; rfl) hq)
              have hmq := hmb q.v.length
              clear hz2 hq hmb
              by_cases hm : 4 < q.v.length
              · rw [show manyBad v q.v.length = true by rw [hmq]; simp [hm]] at RES
                simp only [if_true] at RES
                have hm1 : (4 : Int) < (q.v.length : Int) := by omega
                clear hmq hm
                go_wp2_with (first
                  | (go_at_call 56; refine (HNM.out _).mono ?_; rintro e w8 ⟨rfl, hfn⟩; have HF8 := hide (HFr.out.trans (w0_fr hfn rb)); have HP8 := hide (HPr.out.fr hfn id); have HX8 := hide (HXr.out.fr hfn id); clear b0 b1 hlt; obtain ⟨b0, b1, -, -, -, -, -, -, -, -, hlt⟩ := boxes hrb HF8.out; have hrb8 : rb < w8.heap.size := HP8.out.lt; clear hfn)
                  | (go_at_call 44; refine (UN.out _ _ _ HQ.out HF8.out HP8.out HX8.out).mono ?_; rintro e w9 ⟨rfl, hj⟩; obtain ⟨⟨sa, sn, sc⟩, hc3, hrow⟩ := hj.row; obtain rfl : sn = q.v.length := (by obtain ⟨a, c, h⟩ := hrow.shape; cases h; rfl); have hf9 : Fr (at_ rb) (w3of w rb d) w9 := HF8.out.then hj.fr (fun j hj e => by simp at hj; rcases e with e | e; exact e; omega); have x0 := (hj.old 0 (by decide)).trans HX8.out.c0; have x1 := (hj.old 1 (by decide)).trans HX8.out.c1; have x2 := (hj.old 2 (by decide)).trans HX8.out.c2; have hb9 : bx < w9.heap.size := Nat.lt_of_lt_of_le HX8.out.lt hj.fr.size; have hq9 := hj.le; have hpl := hj.pw.pr.lt; clear b0 b1 hlt; obtain ⟨b0, b1, c0, c1, c2, c3, f0, f1, f2, f3, hlt⟩ := boxes hrb hf9; have HJ9 := hide hj; have HC3 := hide hc3; have HF9 := hide hf9; clear hj hrow hf9 hq9)
                  | (go_at_call 54; refine (bad_any rb q.l q.z 5 _ HJ9.out.pw.pr).mono ?_; rintro e w10 ⟨rfl, hp, hf⟩; have hf10 := HF9.out.trans hf; replace x0 := (hf.cell (p := ⟨bx, 0, none⟩) hb9 (by show ¬ bx = rb; omega)).trans x0; replace x1 := (hf.cell (p := ⟨bx, 1, none⟩) hb9 (by show ¬ bx = rb; omega)).trans x1; replace x2 := (hf.cell (p := ⟨bx, 2, none⟩) hb9 (by show ¬ bx = rb; omega)).trans x2; replace hc3 := (hf.cell (p := ⟨bx, 3, none⟩) hb9 (by show ¬ bx = rb; omega)).trans hc3; replace hb9 := Nat.lt_of_lt_of_le hb9 hf.size; clear b0 b1 c0 c1 c2 c3 f0 f1 f2 f3 hlt; obtain ⟨b0, b1, c0, c1, c2, c3, f0, f1, f2, f3, hlt⟩ := boxes hrb hf10; have HP10 := hide hp; have HF10 := hide hf; clear hp hf hf10))
                refine bodyPost_ret (v := ev ⟨(scan2 v 6).k, (scan2 v 6).n, (scan2 v 6).t, ⟨sa, q.v.length, sc⟩⟩) (by simp [results, Tryd.results65, go_sem, c0, c1, c2, c3]) rfl ?_
                rw [RES.out]
                exact formed_fin hrb (by omega) HF8.out HJ9.out HC3.out HF10.out HP10.out _ _ _ _
              · rw [show manyBad v q.v.length = false by rw [hmq]; simp [hm]] at RES
                simp only [Bool.false_eq_true, if_false] at RES
                have hm1 : ¬ (4 : Int) < (q.v.length : Int) := by omega
                clear hmq hm
                go_wp2_with (first
                  | (go_at_call 56; refine (HNM.out _).mono ?_; rintro e w8 ⟨rfl, hfn⟩; have HF8 := hide (HFr.out.trans (w0_fr hfn rb)); have HP8 := hide (HPr.out.fr hfn id); have HX8 := hide (HXr.out.fr hfn id); clear b0 b1 hlt; obtain ⟨b0, b1, -, -, -, -, -, -, -, -, hlt⟩ := boxes hrb HF8.out; have hrb8 : rb < w8.heap.size := HP8.out.lt; clear hfn)
                  | (go_at_call 44; refine (UN.out _ _ _ HQ.out HF8.out HP8.out HX8.out).mono ?_; rintro e w9 ⟨rfl, hj⟩; obtain ⟨⟨sa, sn, sc⟩, hc3, hrow⟩ := hj.row; obtain rfl : sn = q.v.length := (by obtain ⟨a, c, h⟩ := hrow.shape; cases h; rfl); have hf9 : Fr (at_ rb) (w3of w rb d) w9 := HF8.out.then hj.fr (fun j hj e => by simp at hj; rcases e with e | e; exact e; omega); have x0 := (hj.old 0 (by decide)).trans HX8.out.c0; have x1 := (hj.old 1 (by decide)).trans HX8.out.c1; have x2 := (hj.old 2 (by decide)).trans HX8.out.c2; have hb9 : bx < w9.heap.size := Nat.lt_of_lt_of_le HX8.out.lt hj.fr.size; have hq9 := hj.le; have hpl := hj.pw.pr.lt; clear b0 b1 hlt; obtain ⟨b0, b1, c0, c1, c2, c3, f0, f1, f2, f3, hlt⟩ := boxes hrb hf9; have HJ9 := hide hj; have HC3 := hide hc3; have HF9 := hide hf9; clear hj hrow hf9 hq9))
                refine bodyPost_ret (v := ev ⟨(scan2 v 6).k, (scan2 v 6).n, (scan2 v 6).t, ⟨sa, q.v.length, sc⟩⟩) (by simp [results, Tryd.results65, go_sem, c0, c1, c2, c3]) rfl ?_
                rw [RES.out]
                exact formed_fin hrb (by omega) HF8.out HJ9.out HC3.out (Fr.refl _ _) HJ9.out.pw.pr _ _ _ _
            | false =>
              rw [hnm] at hz2 HNM
              obtain ⟨q, hq⟩ : ∃ q, until_ one N l1 (bad z1 7) = q := ⟨_, rfl⟩
              have HQ := hide hq
              have RES := hide (hRES.out (bad z1 7) q (by rw [hz2]; rfl) hq)
              have hmq := hmb q.v.length
              clear hz2 hq hmb
              by_cases hm : 4 < q.v.length
              · rw [show manyBad v q.v.length = true by rw [hmq]; simp [hm]] at RES
                simp only [if_true] at RES
                have hm1 : (4 : Int) < (q.v.length : Int) := by omega
                clear hmq hm
                go_wp2_with (first
                  | (go_at_call 56; refine (HNM.out _).mono ?_; rintro e w8 ⟨rfl, hfn⟩; have HF8 := hide (HFr.out.trans (w0_fr hfn rb)); have HP8 := hide (HPr.out.fr hfn id); have HX8 := hide (HXr.out.fr hfn id); clear b0 b1 hlt; obtain ⟨b0, b1, -, -, -, -, -, -, -, -, hlt⟩ := boxes hrb HF8.out; have hrb8 : rb < w8.heap.size := HP8.out.lt; clear hfn)
                  | (go_at_call 44; refine (UN.out _ _ _ HQ.out HF7.out HP7.out HX7.out).mono ?_; rintro e w9 ⟨rfl, hj⟩; obtain ⟨⟨sa, sn, sc⟩, hc3, hrow⟩ := hj.row; obtain rfl : sn = q.v.length := (by obtain ⟨a, c, h⟩ := hrow.shape; cases h; rfl); have hf9 : Fr (at_ rb) (w3of w rb d) w9 := HF7.out.then hj.fr (fun j hj e => by simp at hj; rcases e with e | e; exact e; omega); have x0 := (hj.old 0 (by decide)).trans HX7.out.c0; have x1 := (hj.old 1 (by decide)).trans HX7.out.c1; have x2 := (hj.old 2 (by decide)).trans HX7.out.c2; have hb9 : bx < w9.heap.size := Nat.lt_of_lt_of_le HX7.out.lt hj.fr.size; have hq9 := hj.le; have hpl := hj.pw.pr.lt; clear b0 b1 hlt; obtain ⟨b0, b1, c0, c1, c2, c3, f0, f1, f2, f3, hlt⟩ := boxes hrb hf9; have HJ9 := hide hj; have HC3 := hide hc3; have HF9 := hide hf9; clear hj hrow hf9 hq9)
                  | (go_at_call 54; refine (bad_any rb q.l q.z 5 _ HJ9.out.pw.pr).mono ?_; rintro e w10 ⟨rfl, hp, hf⟩; have hf10 := HF9.out.trans hf; replace x0 := (hf.cell (p := ⟨bx, 0, none⟩) hb9 (by show ¬ bx = rb; omega)).trans x0; replace x1 := (hf.cell (p := ⟨bx, 1, none⟩) hb9 (by show ¬ bx = rb; omega)).trans x1; replace x2 := (hf.cell (p := ⟨bx, 2, none⟩) hb9 (by show ¬ bx = rb; omega)).trans x2; replace hc3 := (hf.cell (p := ⟨bx, 3, none⟩) hb9 (by show ¬ bx = rb; omega)).trans hc3; replace hb9 := Nat.lt_of_lt_of_le hb9 hf.size; clear b0 b1 c0 c1 c2 c3 f0 f1 f2 f3 hlt; obtain ⟨b0, b1, c0, c1, c2, c3, f0, f1, f2, f3, hlt⟩ := boxes hrb hf10; have HP10 := hide hp; have HF10 := hide hf; clear hp hf hf10)
                  | (go_at_call 54; refine (bad_any rb l1 z1 7 _ HP8.out).mono ?_; rintro e wb ⟨rfl, hp, hf⟩; have HF7 := hide (HF8.out.trans hf); have HP7 := hide hp; have HX7 := hide (HX8.out.fr hf (by show ¬ bx = rb; omega)); clear b0 b1 hlt; obtain ⟨b0, b1, -, -, -, -, -, -, -, -, hlt⟩ := boxes hrb HF7.out; have hrb7 : rb < wb.heap.size := HP7.out.lt; clear hp hf))
                refine bodyPost_ret (v := ev ⟨(scan2 v 6).k, (scan2 v 6).n, (scan2 v 6).t, ⟨sa, q.v.length, sc⟩⟩) (by simp [results, Tryd.results65, go_sem, c0, c1, c2, c3]) rfl ?_
                rw [RES.out]
                exact formed_fin hrb (by omega) HF7.out HJ9.out HC3.out HF10.out HP10.out _ _ _ _
              · rw [show manyBad v q.v.length = false by rw [hmq]; simp [hm]] at RES
                simp only [Bool.false_eq_true, if_false] at RES
                have hm1 : ¬ (4 : Int) < (q.v.length : Int) := by omega
                clear hmq hm
                go_wp2_with (first
                  | (go_at_call 56; refine (HNM.out _).mono ?_; rintro e w8 ⟨rfl, hfn⟩; have HF8 := hide (HFr.out.trans (w0_fr hfn rb)); have HP8 := hide (HPr.out.fr hfn id); have HX8 := hide (HXr.out.fr hfn id); clear b0 b1 hlt; obtain ⟨b0, b1, -, -, -, -, -, -, -, -, hlt⟩ := boxes hrb HF8.out; have hrb8 : rb < w8.heap.size := HP8.out.lt; clear hfn)
                  | (go_at_call 44; refine (UN.out _ _ _ HQ.out HF7.out HP7.out HX7.out).mono ?_; rintro e w9 ⟨rfl, hj⟩; obtain ⟨⟨sa, sn, sc⟩, hc3, hrow⟩ := hj.row; obtain rfl : sn = q.v.length := (by obtain ⟨a, c, h⟩ := hrow.shape; cases h; rfl); have hf9 : Fr (at_ rb) (w3of w rb d) w9 := HF7.out.then hj.fr (fun j hj e => by simp at hj; rcases e with e | e; exact e; omega); have x0 := (hj.old 0 (by decide)).trans HX7.out.c0; have x1 := (hj.old 1 (by decide)).trans HX7.out.c1; have x2 := (hj.old 2 (by decide)).trans HX7.out.c2; have hb9 : bx < w9.heap.size := Nat.lt_of_lt_of_le HX7.out.lt hj.fr.size; have hq9 := hj.le; have hpl := hj.pw.pr.lt; clear b0 b1 hlt; obtain ⟨b0, b1, c0, c1, c2, c3, f0, f1, f2, f3, hlt⟩ := boxes hrb hf9; have HJ9 := hide hj; have HC3 := hide hc3; have HF9 := hide hf9; clear hj hrow hf9 hq9)
                  | (go_at_call 54; refine (bad_any rb l1 z1 7 _ HP8.out).mono ?_; rintro e wb ⟨rfl, hp, hf⟩; have HF7 := hide (HF8.out.trans hf); have HP7 := hide hp; have HX7 := hide (HX8.out.fr hf (by show ¬ bx = rb; omega)); clear b0 b1 hlt; obtain ⟨b0, b1, -, -, -, -, -, -, -, -, hlt⟩ := boxes hrb HF7.out; have hrb7 : rb < wb.heap.size := HP7.out.lt; clear hp hf))
                refine bodyPost_ret (v := ev ⟨(scan2 v 6).k, (scan2 v 6).n, (scan2 v 6).t, ⟨sa, q.v.length, sc⟩⟩) (by simp [results, Tryd.results65, go_sem, c0, c1, c2, c3]) rfl ?_
                rw [RES.out]
                exact formed_fin hrb (by omega) HF7.out HJ9.out HC3.out (Fr.refl _ _) HJ9.out.pw.pr _ _ _ _
end Go.Proofs.YtpemfikdmkmgbaaDoor
end
