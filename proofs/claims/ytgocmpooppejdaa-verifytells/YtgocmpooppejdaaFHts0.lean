/- Package verify: the ways that are looked at: come, follow. -/
import Derived.Test.YtgocmpooppejdaaFProg
import Derived.Test.YtgocmpooppejdaaFOwn
set_option maxHeartbeats 0
set_option maxRecDepth 100000
namespace Go.Proofs.Ytgocmpooppejdaa
open Go Go.RowKit
def encP (p : Int × Int) : List Value := [.int .i64 p.1, .int .i64 p.2]
theorem encP_len (p : Int × Int) : (encP p).length = 2 := rfl
theorem encP_one (p : Int × Int) : ∀ u ∈ encP p, u.oneCell' = true := by
  intro u hu
  simp only [encP, List.mem_cons, List.not_mem_nil, or_false] at hu
  rcases hu with rfl | rfl <;> rfl
theorem sizeWay : (Try.prog.info? 66).map (fun i => (i.zero, i.size, i.bytes)) = some (some (.agg #[.int .i64 0, .int .i64 0]), 2, 16) := by kernel_rfl
/-- The variable of ways, and what it holds. -/
structure Wy (base vb : Nat) (q : Slc) (Q : List (Int × Int)) (w : World) : Prop where
  c : w.cell? ⟨vb, 0, none⟩ = some (.slice q.a q.n q.c)
  z : w.frozen? ⟨vb, 0, none⟩ = false
  o : Own encP 66 2 base q Q w
  d : ∀ b, q.v.ownBlock = some b → b ≠ vb
  b : base ≤ w.heap.size
theorem Wy.lt {base vb : Nat} {q : Slc} {Q : List (Int × Int)} {w : World} (h : Wy base vb q Q w) : vb < w.heap.size := lt_of_cell h.c
theorem Wy.fr {base vb : Nat} {q : Slc} {Q : List (Int × Int)} {w w' : World} {S : Nat → Prop} (h : Wy base vb q Q w) (hf : Fr S w w') (h1 : ¬ S vb) (h2 : ∀ b, q.v.ownBlock = some b → ¬ S b) : Wy base vb q Q w' :=
  ⟨(hf.cell (p := ⟨vb, 0, none⟩) h.lt h1).trans h.c, (hf.frozen (p := ⟨vb, 0, none⟩) h.lt h1).trans h.z, h.o.fr hf h2, h.d, Nat.le_trans h.b hf.size⟩
def WyP (base vb : Nat) (q : Slc) (Q : List (Int × Int)) (w w' : World) : Prop :=
  ∃ q' : Slc, Wy base vb q' Q w' ∧ Fr (fun k => k = vb ∨ q.v.ownBlock = some k) w w' ∧ (∀ b, q'.v.ownBlock = some b → q.v.ownBlock = some b ∨ w.heap.size ≤ b)
theorem WyP.of {base vb : Nat} {q : Slc} {Q : List (Int × Int)} {w w' : World} (h : Wy base vb q Q w) (hf : Fr nothing w w') : WyP base vb q Q w w' :=
  ⟨q, h.fr hf id (fun _ _ => id), hf.mono (fun _ _ e => e.elim), fun _ hb => .inl hb⟩
theorem WyP.then {base vb : Nat} {q q1 : Slc} {Q : List (Int × Int)} {w w1 w2 : World} (h2 : WyP base vb q1 Q w1 w2) (hf : Fr (fun k => k = vb ∨ q.v.ownBlock = some k) w w1) (hq : ∀ b, q1.v.ownBlock = some b → q.v.ownBlock = some b ∨ w.heap.size ≤ b) : WyP base vb q Q w w2 := by
  obtain ⟨q2, a1, a2, a3⟩ := h2
  refine ⟨q2, a1, hf.then a2 (fun j hj e => ?_), fun b hb => ?_⟩
  · rcases e with e | e
    · exact .inl e
    · rcases hq j e with h | h
      · exact .inr h
      · omega
  · rcases a3 b hb with h | h
    · exact hq b h
    · exact .inr (Nat.le_trans hf.size h)
theorem come_any (base vb : Nat) (q : Slc) (Q : List (Int × Int)) (x y : Int) (w : World) (h : Wy base vb q Q w) (hl : Q.length ≤ 1000000) :
    Calls Try.prog 18 #[.int .i64 x, .int .i64 y, .pointer (some ⟨vb, 0, none⟩)] w fun e w' => e = .returned (.tuple #[]) ∧ WyP base vb q (Q ++ [(x, y)]) w w' := by
  have FL : Fr nothing w (w.alloc (.cells #[.int .i64 x, .int .i64 y] 66)) := (Fr.refl _ _).alloc _
  obtain ⟨q', w', hr, ho, hf, ht⟩ := Own.app (x := ⟨some ⟨w.heap.size, 0, none⟩, 1, 1⟩) Try.underlying64 sizeWay rfl (by decide) encP_len encP_one (h.o.new FL) (sl_one (T := 66) w #[.int .i64 x, .int .i64 y] (x, y) rfl) (Nat.le_trans h.b FL.size) (by simp only [List.length_singleton]; unfold maxLen; omega) (by simp only [List.length_singleton]; omega)
  have hvl := h.lt
  have hF : Fr (fun k => q.v.ownBlock = some k) w w' := (FL.mono (fun _ _ e => e.elim)).trans hf
  have c0 := h.c
  have z0 := h.z
  have c1 := (hF.cell (p := ⟨vb, 0, none⟩) hvl (fun e => h.d vb e rfl)).trans c0
  have z1 := (hF.frozen (p := ⟨vb, 0, none⟩) hvl (fun e => h.d vb e rfl)).trans z0
  have vl1 := Nat.lt_of_lt_of_le hvl hF.size
  have hq : ∀ b, q'.v.ownBlock = some b → q.v.ownBlock = some b ∨ w.heap.size ≤ b := fun b hb => (ht b hb).imp id (fun e => Nat.le_trans FL.size e)
  have hnv : ∀ b, q'.v.ownBlock = some b → b ≠ vb := fun b hb => by
    rcases hq b hb with e | e
    · exact h.d b e
    · omega
  obtain ⟨e1, e2, e3⟩ := (⟨World.cell?_setCell_same _ _ _ c1, fun i hi => World.cell?_setCell_other w' ⟨vb, 0, none⟩ ⟨vb, i, none⟩ _ (by first | (simp; done) | (simp; omega)), (Fr.refl (fun k => k = vb) w').setCell (p := ⟨vb, 0, none⟩) (.inl rfl) q'.v⟩ : (w'.setCell ⟨vb, 0, none⟩ q'.v).cell? ⟨vb, 0, none⟩ = some q'.v ∧ (∀ i, i ≠ 0 → (w'.setCell ⟨vb, 0, none⟩ q'.v).cell? ⟨vb, i, none⟩ = w'.cell? ⟨vb, i, none⟩) ∧ Fr (fun k => k = vb) w' (w'.setCell ⟨vb, 0, none⟩ q'.v))
  have HR : Hid (WyP base vb q (Q ++ [(x, y)]) w (w'.setCell ⟨vb, 0, none⟩ q'.v)) := by
    refine ⟨q', ⟨e1, by rw [World.frozen?_setCell]; exact z1, ho.fr e3 (fun b hb e => hnv b hb e), hnv, ?_⟩, ?_, hq⟩
    · exact Nat.le_trans h.b (Nat.le_trans hF.size e3.size)
    · exact (hF.mono (fun _ _ e => .inr e)).trans (e3.mono (fun _ _ e => .inl e))
  clear ho hf ht hq hnv e1 e2 e3 hF FL h
  go_enter Try.func18, Try.ntmps18
  go_wp2_with (at_builtin; go_must (refine wpList_run rfl _ _ 64 rfl _ _ rfl rfl hr ?_; clear hr))
  exact bodyPost_end (v := .tuple #[]) (by simp [results, go_sem, Try.f18]) rfl ⟨rfl, HR.out⟩
/-- What comes of following an instruction. -/
def followC (i : In) (p n : Int) : Int × List (Int × Int) :=
  if n < (shapeC i).1 ∨ (i.op = 18 ∧ 1 < n) then (10, []) else if 16 < n - (shapeC i).1 + (shapeC i).2 then (4, [])
  else (0, nextC i p (n - (shapeC i).1 + (shapeC i).2))
theorem follow_any (i : In) (p : Nat) (n : Int) (base vb : Nat) (q : Slc) (Q : List (Int × Int)) (w : World) (h : Wy base vb q Q w) (hl : Q.length ≤ 900000) (hb : i.op = 17 → 0 ≤ i.b) (hp : p ≤ 1000000000) (hn : 0 ≤ n ∧ n ≤ 16) :
    Calls Try.prog 20 #[.agg #[.int .i64 i.op, .int .i64 i.a, .int .i64 i.b], .int .i64 (p : Nat), .int .i64 n, .func (.func 18) #[] #[.pointer (some ⟨vb, 0, none⟩)]] w fun e w' => e = .returned (.int .i64 (followC i p n).1) ∧ WyP base vb q (Q ++ (followC i p n).2) w w' := by
  have hpos := shape_pos i hb
  have HEF := hide (fun w1 => effect_any i w1 hb)
  obtain ⟨sp, hsp⟩ : ∃ sp, shapeC i = sp := ⟨_, rfl⟩
  have HD : Hid (followC i p n = if n < sp.1 ∨ (i.op = 18 ∧ 1 < n) then (10, []) else if 16 < n - sp.1 + sp.2 then (4, []) else (0, nextC i p (n - sp.1 + sp.2))) := by
    unfold Hid followC; rw [hsp]
  have h18 : i.op = 18 → sp.1 = 1 := fun e => by
    rw [← hsp]
    unfold shapeC
    rw [if_neg (by omega), e]
    rfl
  rw [hsp] at hpos
  generalize followC i p n = R at *
  obtain ⟨op, ia, ib⟩ := i
  obtain ⟨pp, pu⟩ := sp
  simp only at hpos h18 HD HEF
  have hd := HD.out
  have HY := hide h
  have hF1 : Fr nothing w (w.alloc (.cells #[.int .i64 op, .int .i64 ia, .int .i64 ib] 44)) := (Fr.refl _ _).alloc _
  have ca := made_cells (Fr.refl nothing (w.alloc (.cells #[.int .i64 op, .int .i64 ia, .int .i64 ib] 44))) id
  obtain ⟨w1, hw1⟩ : ∃ w1, w1 = w.alloc (.cells #[.int .i64 op, .int .i64 ia, .int .i64 ib] 44) := ⟨_, rfl⟩
  rw [← hw1] at hF1 ca
  have c0 := ca.1 0
  have c1 := ca.1 1
  have c2 := ca.1 2
  have cl := ca.2.2
  have HF1 := hide hF1
  have hw1' : w.alloc (.cells #[.int .i64 op, .int .i64 ia, .int .i64 ib] 44) = w1 := hw1.symm
  have HNB : Hid (¬ (w.heap.size = vb ∨ q.v.ownBlock = some w.heap.size)) := by
    rintro (e | e)
    · have := h.lt; omega
    · have := (h.o.lt e).2; omega
  clear ca hF1 hw1 h HD
  by_cases hlow : n < pp
  · rw [if_pos (.inl hlow)] at hd
    subst hd
    go_enter Try.func20, Try.ntmps20
    go_wp2_with (go_at_call 27; refine (HEF.out w1).mono ?_; rintro e w2 ⟨rfl, hf2⟩; rw [hsp]; have i0 := (hf2.cell (p := ⟨w.heap.size, 0, none⟩) cl id).trans c0; have i1 := (hf2.cell (p := ⟨w.heap.size, 1, none⟩) cl id).trans c1; have il := Nat.lt_of_lt_of_le cl hf2.size; have hf02 := HF1.out.trans hf2; have HY2 := hide (HY.out.fr hf02 id (fun _ _ => id)); have HF2 := hide hf02; clear hf2 hf02)
    go_ret
    exact ⟨rfl, by rw [List.append_nil]; exact WyP.of HY.out HF2.out⟩
  by_cases hret : op = 18 ∧ 1 < n
  · rw [if_pos (.inr hret)] at hd
    subst hd
    obtain ⟨rfl, hn1⟩ := hret
    have hn1b : (n != 1) = true := by simp; omega
    go_enter Try.func20, Try.ntmps20
    go_wp2_with (go_at_call 27; refine (HEF.out w1).mono ?_; rintro e w2 ⟨rfl, hf2⟩; rw [hsp]; have i0 := (hf2.cell (p := ⟨w.heap.size, 0, none⟩) cl id).trans c0; have i1 := (hf2.cell (p := ⟨w.heap.size, 1, none⟩) cl id).trans c1; have il := Nat.lt_of_lt_of_le cl hf2.size; have hf02 := HF1.out.trans hf2; have HY2 := hide (HY.out.fr hf02 id (fun _ _ => id)); have HF2 := hide hf02; clear hf2 hf02)
    go_ret
    exact ⟨rfl, by rw [List.append_nil]; exact WyP.of HY.out HF2.out⟩
  rw [if_neg (by omega)] at hd
  have hN1 : IntKind.i64.wrap (pu - pp) = pu - pp := wrap_in _ (by omega) (by omega)
  have hN2 : IntKind.i64.wrap (n + (pu - pp)) = n - pp + pu := by rw [wrap_in _ (by omega) (by omega)]; omega
  have hN0 : IntKind.i64.wrap ((p : Int) + 1) = (p : Int) + 1 := wrap_in _ (by omega) (by omega)
  by_cases h16 : 16 < n - pp + pu
  · rw [if_pos h16] at hd
    subst hd
    have o18 : ¬ op = 18 := fun e => by have := h18 e; omega
    have o18b : (op == 18) = false := by simpa using o18
    clear h18 hret
    go_enter Try.func20, Try.ntmps20
    go_wp2_with (go_at_call 27; refine (HEF.out w1).mono ?_; rintro e w2 ⟨rfl, hf2⟩; rw [hsp]; have i0 := (hf2.cell (p := ⟨w.heap.size, 0, none⟩) cl id).trans c0; have i1 := (hf2.cell (p := ⟨w.heap.size, 1, none⟩) cl id).trans c1; have il := Nat.lt_of_lt_of_le cl hf2.size; have hf02 := HF1.out.trans hf2; have HY2 := hide (HY.out.fr hf02 id (fun _ _ => id)); have HF2 := hide hf02; clear hf2 hf02)
    go_ret
    exact ⟨rfl, by rw [List.append_nil]; exact WyP.of HY.out HF2.out⟩
  rw [if_neg h16] at hd
  by_cases o15 : op = 15
  · subst o15
    have hnx : nextC ⟨15, ia, ib⟩ (p : Int) (n - pp + pu) = [(ia, n - pp + pu)] := by simp [nextC]
    rw [hnx] at hd
    subst hd
    clear hnx hret h18
    go_enter Try.func20, Try.ntmps20
    go_wp2_with (first
      | (go_at_call 27; refine (HEF.out w1).mono ?_; rintro e w2 ⟨rfl, hf2⟩; rw [hsp]; have i0 := (hf2.cell (p := ⟨w.heap.size, 0, none⟩) cl id).trans c0; have i1 := (hf2.cell (p := ⟨w.heap.size, 1, none⟩) cl id).trans c1; have il := Nat.lt_of_lt_of_le cl hf2.size; have hf02 := HF1.out.trans hf2; have HY2 := hide (HY.out.fr hf02 id (fun _ _ => id)); have HF2 := hide hf02; clear hf2 hf02)
      | (go_at_call 18; refine (come_any base vb q Q ia (n - pp + pu) w2 HY2.out (by omega)).mono ?_; rintro e w3 ⟨rfl, hy3⟩; have HY3 := hide hy3; clear hy3))
    go_ret
    exact ⟨rfl, HY3.out.then (HF2.out.mono (fun _ _ e => e.elim)) (fun b hb => .inl hb)⟩
  by_cases o18 : op = 18
  · subst o18
    have hn1 : n = 1 := by have := h18 rfl; omega
    have hn1b : (n != 1) = false := by simpa using hn1
    have hnx : nextC ⟨18, ia, ib⟩ (p : Int) (n - pp + pu) = [] := by simp [nextC]
    rw [hnx] at hd
    subst hd
    clear hnx hret h18 hn1
    go_enter Try.func20, Try.ntmps20
    go_wp2_with (go_at_call 27; refine (HEF.out w1).mono ?_; rintro e w2 ⟨rfl, hf2⟩; rw [hsp]; have i0 := (hf2.cell (p := ⟨w.heap.size, 0, none⟩) cl id).trans c0; have i1 := (hf2.cell (p := ⟨w.heap.size, 1, none⟩) cl id).trans c1; have il := Nat.lt_of_lt_of_le cl hf2.size; have hf02 := HF1.out.trans hf2; have HY2 := hide (HY.out.fr hf02 id (fun _ _ => id)); have HF2 := hide hf02; clear hf2 hf02)
    go_ret
    exact ⟨rfl, by rw [List.append_nil]; exact WyP.of HY.out HF2.out⟩
  by_cases o16 : op = 16
  · subst o16
    have hnx : nextC ⟨16, ia, ib⟩ (p : Int) (n - pp + pu) = [((p : Int) + 1, n - pp + pu), (ia, n - pp + pu)] := by simp [nextC]
    rw [hnx] at hd
    subst hd
    clear hnx hret h18
    go_enter Try.func20, Try.ntmps20
    go_wp2_with (first
      | (go_at_call 27; refine (HEF.out w1).mono ?_; rintro e w2 ⟨rfl, hf2⟩; rw [hsp]; have i0 := (hf2.cell (p := ⟨w.heap.size, 0, none⟩) cl id).trans c0; have i1 := (hf2.cell (p := ⟨w.heap.size, 1, none⟩) cl id).trans c1; have il := Nat.lt_of_lt_of_le cl hf2.size; have hf02 := HF1.out.trans hf2; have HY2 := hide (HY.out.fr hf02 id (fun _ _ => id)); have HF2 := hide hf02; clear hf2 hf02)
      | (go_at_call 18; refine (come_any base vb q3 (Q ++ [((p : Int) + 1, n - pp + pu)]) ia (n - pp + pu) w3 HY3.out (by simp only [List.length_append, List.length_singleton]; omega)).mono ?_; rintro e w4 ⟨rfl, hy4⟩; have HY4 := hide hy4; clear hy4)
      | (go_at_call 18; refine (come_any base vb q Q ((p : Int) + 1) (n - pp + pu) w2 HY2.out (by omega)).mono ?_; rintro e w3 ⟨rfl, q3, y3, f3, t3⟩; have j0 := (f3.cell (p := ⟨w.heap.size, 0, none⟩) il HNB.out).trans i0; have j1 := (f3.cell (p := ⟨w.heap.size, 1, none⟩) il HNB.out).trans i1; have jl := Nat.lt_of_lt_of_le il f3.size; have HY3 := hide y3; have HF3 : Hid (Fr (fun k => k = vb ∨ q.v.ownBlock = some k) w w3) := (HF2.out.mono (fun _ _ e => e.elim)).trans f3; have HT3 : Hid (∀ b, q3.v.ownBlock = some b → q.v.ownBlock = some b ∨ w.heap.size ≤ b) := (fun b hb => (t3 b hb).imp id (fun e => Nat.le_trans HF2.out.size e)); clear y3 f3 t3))
    go_ret
    refine ⟨rfl, ?_⟩
    have := HY4.out.then HF3.out HT3.out
    simpa using this
  have o15b : (op == 15) = false := by simpa using o15
  have o16b : (op == 16) = false := by simpa using o16
  have o18b : (op == 18) = false := by simpa using o18
  have o15c : (op != 15) = true := by simpa using o15
  have o18c : (op != 18) = true := by simpa using o18
  have hnx : nextC ⟨op, ia, ib⟩ (p : Int) (n - pp + pu) = [((p : Int) + 1, n - pp + pu)] := by simp [nextC, o15, o16, o18]
  rw [hnx] at hd
  subst hd
  clear hnx hret h18
  go_enter Try.func20, Try.ntmps20
  go_wp2_with (first
    | (go_at_call 27; refine (HEF.out w1).mono ?_; rintro e w2 ⟨rfl, hf2⟩; rw [hsp]; have i0 := (hf2.cell (p := ⟨w.heap.size, 0, none⟩) cl id).trans c0; have i1 := (hf2.cell (p := ⟨w.heap.size, 1, none⟩) cl id).trans c1; have il := Nat.lt_of_lt_of_le cl hf2.size; have hf02 := HF1.out.trans hf2; have HY2 := hide (HY.out.fr hf02 id (fun _ _ => id)); have HF2 := hide hf02; clear hf2 hf02)
    | (go_at_call 18; refine (come_any base vb q Q ((p : Int) + 1) (n - pp + pu) w2 HY2.out (by omega)).mono ?_; rintro e w3 ⟨rfl, q3, y3, f3, t3⟩; have j0 := (f3.cell (p := ⟨w.heap.size, 0, none⟩) il HNB.out).trans i0; have jl := Nat.lt_of_lt_of_le il f3.size; have HY3 : Hid (WyP base vb q (Q ++ [((p : Int) + 1, n - pp + pu)]) w2 w3) := ⟨q3, y3, f3, t3⟩; clear y3 f3 t3))
  go_ret
  exact ⟨rfl, HY3.out.then (HF2.out.mono (fun _ _ e => e.elim)) (fun b hb => .inl hb)⟩
end Go.Proofs.Ytgocmpooppejdaa
