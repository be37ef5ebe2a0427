/- The document's own answer: what is wrong with an agent: its counts, as rows (no program). -/
import Derived.Test.YtgocmpooppejdaaFAgent
set_option maxHeartbeats 0
set_option maxRecDepth 100000
namespace Go.Proofs.Ytgocmpooppejdaa
open Go Go.RowKit
def rowsL (a : Ag) : List (Int × Int) := [(a.id, 1073741824), (a.trip, 1073741824), (a.fuel, 2000), (a.cells, 60), (a.hops, 12)]
def rowBad (p : Int × Int) : Prop := p.1 < 0 ∨ p.2 < p.1
def restC (a : Ag) : Int := if a.fr.length = 0 ∨ 12 < a.fr.length then 5 else if 60 < a.hp.length + a.cells then 4 else 0
theorem counts_bad {a : Ag} {p : Int × Int} (h : p ∈ rowsL a) (hb : rowBad p) : countsC a = 3 := by
  unfold countsC
  unfold rowBad at hb
  by_cases h1 : a.id < 0 ∨ 1073741824 < a.id ∨ a.trip < 0 ∨ 1073741824 < a.trip
  · rw [if_pos h1]
  · rw [if_neg h1, if_pos]
    simp only [rowsL, List.mem_cons, List.not_mem_nil, or_false] at h
    rcases h with rfl | rfl | rfl | rfl | rfl <;> simp only at hb <;> omega
theorem counts_rest {a : Ag} (h : ∀ p ∈ rowsL a, ¬ rowBad p) : countsC a = restC a := by
  have h1 := h (a.id, 1073741824) (by simp [rowsL])
  have h2 := h (a.trip, 1073741824) (by simp [rowsL])
  have h3 := h (a.fuel, 2000) (by simp [rowsL])
  have h4 := h (a.cells, 60) (by simp [rowsL])
  have h5 := h (a.hops, 12) (by simp [rowsL])
  unfold rowBad at h1 h2 h3 h4 h5
  simp only at h1 h2 h3 h4 h5
  unfold countsC restC
  rw [if_neg (by omega), if_neg (by omega)]
theorem rows_fit {a : Ag} (h : WfA a) : ∀ p ∈ rowsL a, i64 p.1 ∧ i64 p.2 := by
  intro p hp
  have hn := h.n
  simp only [rowsL, List.mem_cons, List.not_mem_nil, or_false] at hp
  rcases hp with rfl | rfl | rfl | rfl | rfl <;> simp only [i64] at hn ⊢ <;> omega
/-- A frame and its values. -/
theorem frameE_app (a : Ag) (away : Bool) (k : Nat) {f : Fm} (h : a.fr.getD k fm0 = f) : frameE a away k = if frameC a.pg f (waitC a k away) ≠ 0 then frameC a.pg f (waitC a k away) else firstE (wrongV a.hp.length) (f.vars ++ f.stack) := by
  subst h
  unfold frameE
  rw [firstE_append]
theorem waitC_next (a : Ag) (k : Nat) (away : Bool) {f : Fm} (h : a.fr[k + 1]? = some f) : waitC a k away = (17, f.fn) := by
  unfold waitC
  rw [if_pos (List.getElem?_eq_some_iff.1 h).1]
  simp [List.getD_eq_getElem?_getD, h]
theorem waitC_last (a : Ag) (k : Nat) (away : Bool) (h : ¬ k + 1 < a.fr.length) : waitC a k away = if away then (13, 0) else (0, 0) := by
  unfold waitC
  rw [if_neg h]
theorem encV_uno (x : Val) : ∀ u ∈ encV x, u.oneCell' = true := by
  intro u hu
  simp only [encV, List.mem_cons, List.not_mem_nil, or_false] at hu
  rcases hu with rfl | rfl | rfl <;> rfl
theorem sizeVal : (Try.prog.info? 51).map (fun i => (i.zero, i.size, i.bytes)) = some (some (.agg #[.int .i64 0, .int .i64 0, .string ⟨#[]⟩]), 3, 32) := by kernel_rfl
/-- Values, and then others, behind a row that is new. -/
theorem vals_two (w : World) (xa ya : Slc) (xs ys : List Val) (hx : Sl encV 3 w xa.v xs) (hy : Sl encV 3 w ya.v ys) (h1 : xs.length ≤ 1000000) (h2 : ys.length ≤ 1000000) :
    ∃ (q1 : Slc) (w10 : World) (q2 : Slc) (w11 : World), (Builtin.append_ #[49, 49] 49 #[.slice (some ⟨w.heap.size, 0, none⟩) 0 0, .slice xa.a xa.n xa.c]).run Try.prog (w.alloc (.cells #[] 51)).drew = .ok (.slice q1.a q1.n q1.c) w10 ∧
      (Builtin.append_ #[49, 49] 49 #[.slice q1.a q1.n q1.c, .slice ya.a ya.n ya.c]).run Try.prog w10 = .ok (.slice q2.a q2.n q2.c) w11 ∧ Fr nothing w (w.alloc (.cells #[] 51)).drew ∧ Fr nothing w w10 ∧ Fr nothing w w11 ∧ Own encV 51 3 w.heap.size q2 (xs ++ ys) w11 := by
  have hF9 : Fr nothing w (w.alloc (.cells #[] 51)).drew := ((Fr.refl _ _).alloc _).drew
  have h0 := (Own.lit (enc := encV) (T := 51) (base := w.heap.size) w #[] [] rfl encV_len (Nat.le_refl _) (Nat.zero_le _)).new ((Fr.refl nothing _).drew)
  obtain ⟨q1, w10, r1, o1, f1, t1⟩ := Own.app (x := xa) Try.underlying49 sizeVal rfl (by decide) encV_len encV_uno h0 (hx.fr hF9 (fun _ _ => id)) hF9.size (by simp only [List.length_nil]; unfold maxLen; omega) (by simp only [List.length_nil]; omega)
  have F10 : Fr nothing w w10 := hF9.then f1 (fun k hk e => by have := (h0.lt e).1; omega)
  obtain ⟨q2, w11, r2, o2, f2, t2⟩ := Own.app (x := ya) Try.underlying49 sizeVal rfl (by decide) encV_len encV_uno o1 (hy.fr F10 (fun _ _ => id)) F10.size (by simp only [List.nil_append]; unfold maxLen; omega) (by simp only [List.nil_append]; omega)
  exact ⟨q1, w10, q2, w11, r1, r2, hF9, F10, F10.then f2 (fun k hk e => by have := (o1.lt e).1; omega), by simpa using o2⟩
theorem leafA {n S : Int} (hS : 0 ≤ S) (h : n < 0) : S ≠ n := by omega
theorem leafB {n S : Int} (hS : 0 ≤ S) (h : n < 0 ∨ (n != S) = true) : S ≠ n := by
  rcases h with h | h
  · omega
  · intro e
    rw [e] at h
    simp at h
theorem leafC {n S : Int} (h : 0 ≤ n ∧ (n != S) = false) : n = S := by simpa using h.2
theorem prog_more {p : Pz} (h : programC p = 0) {c : Cz} (hc : c ∈ p.cs) : (0 ≤ c.nv ∧ c.nv ≤ 8 ∧ c.ins.length ≤ 200 ∧ c.ins.length ≠ 0) ∧ (heightsC c.ins).2 = 0 ∧ (∀ i ∈ c.ins, i.op = 17 → 0 ≤ i.b) ∧ ∀ i ∈ c.ins, i.op = 13 → i.a = 0 := by
  unfold programC at h
  split at h
  · rename_i hx; exact absurd h hx
  rename_i hx
  have hz := hed_zero (Classical.not_not.1 hx)
  have hb := hz.2.2.2.2.2 c hc
  have h2 := firstE_zero h c hc
  unfold codeC at h2
  split at h2
  · rename_i h3; exact absurd h2 h3
  rename_i h3
  have hin := firstE_zero (Classical.not_not.1 h3)
  refine ⟨by omega, h2, fun i hi ho => ?_, fun i hi ho => ?_⟩
  · have h4 := hin i hi
    unfold inC at h4
    split at h4
    · cases h4
    split at h4
    · cases h4
    split at h4
    · cases h4
    rename_i h5
    have h6 : i.b = bC p i := Classical.not_not.1 h5
    rw [h6]
    unfold bC
    rw [if_pos ho]
    unfold npZ
    cases hg : p.cs[i.a.toNat]? with
    | none => simp
    | some c' => simpa using (hz.2.2.2.2.2 c' (List.mem_of_getElem? hg)).1
  · have h4 := hin i hi
    unfold inC at h4
    split at h4
    · cases h4
    split at h4
    · cases h4
    rename_i h5
    have h6 : loC i.op = 0 := by rw [ho]; rfl
    have h7 : hiC p c i.op = 0 := by rw [ho]; rfl
    rw [h6, h7] at h5
    omega
end Go.Proofs.Ytgocmpooppejdaa
