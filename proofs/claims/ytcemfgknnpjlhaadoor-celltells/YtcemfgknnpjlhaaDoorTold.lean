/- What is told of a value: bytes, and the memory in which they are gathered. -/
import Derived.Test.YtcemfgknnpjlhaaDoorRight
import Derived.Test.YtcemfgknnpjlhaaDoorShelf
import Derived.Lib.AppendStr
import Derived.Lib.AppendIntMem
import Derived.Lib.ItoaLen
namespace Go.Proofs.YtcemfgknnpjlhaaDoor
open Go.RowKit Go.Ws

/-- A value told, as bytes. -/
def showV (h : List Cel) : Nat → Val → List UInt8
  | 0, v => if v.k = 0 then Lib.itoa v.n else if v.k = 1 then v.t.data.toList else [46, 46]
  | d + 1, v => if v.k = 0 then Lib.itoa v.n else if v.k = 1 then v.t.data.toList else if inR h.length v then 40 :: (showV h d (cellAt h v.n.toNat).l ++ 32 :: (showV h d (cellAt h v.n.toNat).r ++ [41])) else [46, 46]

def byteV (b : UInt8) : Value := .int .u8 b.toNat

section
variable {P : Program} (w : World)
/-- append of a string's bytes, and where the slice lies then. -/
theorem run_append_str (base : Nat) (t u ty e : TypeId) (i : TypeInfo) (ht : P.underlying t = some (.slice e)) (hu : P.underlying u = some .string) (hi : P.info? e = some i) (hz : i.zero = some (.int .u8 0))
    (hsize : i.size = 1) (hby : i.bytes = 1) (v : Value) (n : Nat) (xs : List Value) (hown : w.ownsRow base e 1 v n xs) (s : ByteArray)
    (h63 : n + s.size ≤ maxLen) (hbytes : n + s.size ≤ 140737488355328) (hbase : base ≤ w.heap.size) :
    ∃ a c w', (Builtin.append_ #[t, u] ty #[v, .string s]).run P w = .ok (.slice a (n + s.size) c) w' ∧ w'.ownsRow base e 1 (.slice a (n + s.size) c) (n + s.size) (xs ++ Lib.strCells s) ∧ w.grownBy w' v.ownBlock ∧
      (∀ k, (Value.slice a (n + s.size) c).ownBlock = some k → v.ownBlock = some k ∨ k = w.heap.size) := by
  obtain ⟨v', w', hr, h2, h3, h4⟩ := Lib.run_append_own_string (P := P) w base t u ty e i ht hu hi hz hsize hby v n xs hown s h63 hbytes hbase
  have hsm : n + s.size ≤ 9223372036854775807 := by simp only [maxLen] at h63; omega
  have hxl : xs.length = n := by simpa using hown.1
  obtain ⟨a, c, rfl⟩ : ∃ a c, v' = .slice a (n + s.size) c := by
    rcases h2.2 with ⟨rfl, h0⟩ | ⟨g, cap, _, rfl, _⟩
    · exact ⟨none, 0, by rw [h0]⟩
    · exact ⟨_, _, rfl⟩
  refine ⟨a, c, w', hr, h2, h3, fun k hk => ?_⟩
  rcases hown.2 with ⟨rfl, rfl⟩ | ⟨g, cap, cur, rfl, hbg, hg, hnc, hcm, hcs, htake⟩
  · by_cases hm : s.size = 0
    · have h5 := h4.2 ⟨rfl, hm⟩
      rw [h5] at hk
      simp [Value.ownBlock] at hk
    · have hr2 := run_append_nil_string (P := P) w t u ty e i (.int .u8 0) ht hu hi hz s (by omega) (by omega) (by rw [hby]; omega)
      rw [hr] at hr2
      injection hr2 with h6 _
      rw [h6] at hk
      right
      simpa [Value.ownBlock, eq_comm] using hk
  · by_cases hroom : n + s.size ≤ cap
    · have hcs' : cur.size = cap := by simpa using hcs
      have hr2 := Lib.run_append_room_string (P := P) w t u ty e i ht hu hi hsize g n cap cur hg s hroom (by omega)
      rw [hr] at hr2
      injection hr2 with h6 _
      rw [h6] at hk
      left
      simpa [Value.ownBlock] using hk
    · have holds : ∀ j u, xs[j]? = some u → w.cell? ((⟨g, 0, none⟩ : Addr).add j) = some u := hown.cells (g := g) rfl
      have hr2 := Lib.run_append_grow_string (P := P) w t u ty e i (.int .u8 0) ht hu hi hz ⟨g, 0, none⟩ n cap xs (by rw [hsize]; simpa using hxl) holds s (by omega) (by omega) (by rw [hby]; exact growslice_fits (by omega) (by omega))
      rw [hr] at hr2
      injection hr2 with h6 _
      rw [h6] at hk
      right
      simpa [Value.ownBlock, eq_comm] using hk

theorem wp_append_str {o : Oper} {a : Act} {K : Act → World → Prop} {Q : Exit → Act → World → Prop} (sl x : Operand) (t u : TypeId)
    (ho : o.op = .call { callee := .builtin .append, args := #[sl, x], argTypes := #[t, u] })
    (base : Nat) (e : TypeId) (i : TypeInfo) (ht : P.underlying t = some (.slice e)) (hu : P.underlying u = some .string) (hi : P.info? e = some i) (hz : i.zero = some (.int .u8 0))
    (hsize : i.size = 1) (hby : i.bytes = 1)
    (v : Value) (n : Nat) (xs : List Value) (hs : a.eval sl = v) (hown : w.ownsRow base e 1 v n xs) (s : ByteArray) (hx : a.eval x = .string s)
    (h63 : n + s.size ≤ maxLen) (hbytes : n + s.size ≤ 140737488355328) (hbase : base ≤ w.heap.size)
    (h : ∀ b c w', w'.ownsRow base e 1 (.slice b (n + s.size) c) (n + s.size) (xs ++ Lib.strCells s) → w.grownBy w' v.ownBlock → (∀ k, (Value.slice b (n + s.size) c).ownBlock = some k → v.ownBlock = some k ∨ k = w.heap.size) → K (a.put o.dst (.slice b (n + s.size) c)) w') : o.wp P a w K Q := by
  obtain ⟨b, c, w', hr, h2, h3, h4⟩ := run_append_str (P := P) w base t u o.type e i ht hu hi hz hsize hby v n xs hown s h63 hbytes hbase
  unfold Oper.wp execOp
  simp only [ho, resolve, invoke, builtin, Sem.run_bind, Sem.run_pure, Result.andThen_ok, List.map_toArray, List.map_cons, List.map_nil, hs, hx, hr]
  exact h b c w' h2 h3 h4
theorem wpList_append_str {ops : Array Oper} {rest : List Oper} {o : Oper} {a : Act} {Q : Exit → Act → World → Prop} (hgd : o.guard = none) (sl x : Operand) (t u : TypeId)
    (ho : o.op = .call { callee := .builtin .append, args := #[sl, x], argTypes := #[t, u] })
    (base : Nat) (e : TypeId) (i : TypeInfo) (ht : P.underlying t = some (.slice e)) (hu : P.underlying u = some .string) (hi : P.info? e = some i) (hz : i.zero = some (.int .u8 0))
    (hsize : i.size = 1) (hby : i.bytes = 1)
    (v : Value) (n : Nat) (xs : List Value) (hs : a.eval sl = v) (hown : w.ownsRow base e 1 v n xs) (s : ByteArray) (hx : a.eval x = .string s)
    (h63 : n + s.size ≤ maxLen) (hbytes : n + s.size ≤ 140737488355328) (hbase : base ≤ w.heap.size)
    (h : ∀ b c w', w'.ownsRow base e 1 (.slice b (n + s.size) c) (n + s.size) (xs ++ Lib.strCells s) → w.grownBy w' v.ownBlock → (∀ k, (Value.slice b (n + s.size) c).ownBlock = some k → v.ownBlock = some k ∨ k = w.heap.size) → wpList P ops Q rest (a.put o.dst (.slice b (n + s.size) c)) w') : wpList P ops Q (o :: rest) a w :=
  wpList_plain hgd fun _ hK => wp_append_str w sl x t u ho base e i ht hu hi hz hsize hby v n xs hs hown s hx h63 hbytes hbase fun b c w' h2 h3 h4 => hK _ _ (h b c w' h2 h3 h4)
theorem step_append_str {ops : Array Oper} {o : Oper} {a : Act} {K : Act → World → Prop} {Q : Exit → Act → World → Prop} {E : Prop} (hgd : o.guard = none) (sl x : Operand) (t u : TypeId)
    (ho : o.op = .call { callee := .builtin .append, args := #[sl, x], argTypes := #[t, u] })
    (base : Nat) (e : TypeId) (i : TypeInfo) (ht : P.underlying t = some (.slice e)) (hu : P.underlying u = some .string) (hi : P.info? e = some i) (hz : i.zero = some (.int .u8 0))
    (hsize : i.size = 1) (hby : i.bytes = 1)
    (v : Value) (n : Nat) (xs : List Value) (hs : a.eval sl = v) (hown : w.ownsRow base e 1 v n xs) (s : ByteArray) (hx : a.eval x = .string s)
    (h63 : n + s.size ≤ maxLen) (hbytes : n + s.size ≤ 140737488355328) (hbase : base ≤ w.heap.size)
    (h : ∀ b c w', w'.ownsRow base e 1 (.slice b (n + s.size) c) (n + s.size) (xs ++ Lib.strCells s) → w.grownBy w' v.ownBlock → (∀ k, (Value.slice b (n + s.size) c).ownBlock = some k → v.ownBlock = some k ∨ k = w.heap.size) → K (a.put o.dst (.slice b (n + s.size) c)) w') :
    if Region.wanted o (yielded ops a.tmps) = true then Oper.wp P o a w K Q else E := by
  have hw : Region.wanted o (yielded ops a.tmps) = true := by simp [Region.wanted, hgd]
  rw [if_pos hw]
  exact wp_append_str w sl x t u ho base e i ht hu hi hz hsize hby v n xs hs hown s hx h63 hbytes hbase h
end

/-- What Show's closure goes by: blocks: h's box, v's, out's, put's. -/
structure SI (w0 : World) (hv : Value) (acc : List UInt8) (ov : Value) (w : World) : Prop where
  old : Below w0.heap.size w0 w
  big : w0.heap.size + 4 ≤ w.heap.size
  hbox : w.cell? ⟨w0.heap.size, 0, none⟩ = some hv
  obox : w.cell? ⟨w0.heap.size + 2, 0, none⟩ = some ov
  ofz : w.frozen? ⟨w0.heap.size + 2, 0, none⟩ = false
  pbox : w.cell? ⟨w0.heap.size + 3, 0, none⟩ = some (.func (.func 33) #[] #[.pointer (some ⟨w0.heap.size + 2, 0, none⟩), .pointer (some ⟨w0.heap.size, 0, none⟩), .pointer (some ⟨w0.heap.size + 3, 0, none⟩)])
  row : w.ownsRow (w0.heap.size + 4) 5 1 ov acc.length (acc.map byteV)

/-- What it may change, and where what is built lies then. -/
def SF (w0 : World) (ov ov' : Value) (w w' : World) : Prop :=
  Fr (fun k => k = w0.heap.size + 2 ∨ ov.ownBlock = some k) w w' ∧ ∀ k, ov'.ownBlock = some k → ov.ownBlock = some k ∨ w.heap.size ≤ k

theorem SF.refl (w0 : World) (ov : Value) (w : World) : SF w0 ov ov w w := ⟨Fr.refl _ _, fun _ h => .inl h⟩
theorem SF.trans {w0 : World} {o1 o2 o3 : Value} {a b c : World} (h : SF w0 o1 o2 a b) (k : SF w0 o2 o3 b c) : SF w0 o1 o3 a c := by
  refine ⟨⟨k.1.os.trans h.1.os, k.1.tape.trans h.1.tape, k.1.output.trans h.1.output, Nat.le_trans h.1.size k.1.size, fun j hj hs => ?_⟩, fun j hj => ?_⟩
  · rw [k.1.block j (Nat.lt_of_lt_of_le hj h.1.size) ?_]
    · exact h.1.block j hj hs
    · rintro (e | e)
      · exact hs (.inl e)
      · rcases h.2 j e with e | e
        · exact hs (.inr e)
        · omega
  · rcases k.2 j hj with e | e
    · exact h.2 j e
    · exact .inr (Nat.le_trans h.1.size e)
/-- New blocks alone. -/
theorem SF.news {w0 : World} {ov : Value} {a b : World} (h : Fr nothing a b) : SF w0 ov ov a b := ⟨h.mono (fun _ _ x => x.elim), fun _ h => .inl h⟩
theorem SI.news {w0 : World} {hv : Value} {acc : List UInt8} {ov : Value} {w w' : World} (hI : SI w0 hv acc ov w) (hf : Fr nothing w w') : SI w0 hv acc ov w' := by
  have hb := hI.big
  exact { old := hI.old.trans (hf.below (by omega) (fun _ _ => id)), big := Nat.le_trans hb hf.size, hbox := (hf.cell (p := ⟨w0.heap.size, 0, none⟩) (by show w0.heap.size < _; omega) id).trans hI.hbox, obox := (hf.cell (p := ⟨w0.heap.size + 2, 0, none⟩) (by show w0.heap.size + 2 < _; omega) id).trans hI.obox, ofz := (hf.frozen (p := ⟨w0.heap.size + 2, 0, none⟩) (by show w0.heap.size + 2 < _; omega) id).trans hI.ofz, pbox := (hf.cell (p := ⟨w0.heap.size + 3, 0, none⟩) (by show w0.heap.size + 3 < _; omega) id).trans hI.pbox, row := owns_fr hI.row hf (fun _ _ => id) }
/-- out = append(out, ..), and stored. -/
theorem SI.more {w0 : World} {hv : Value} {acc bs : List UInt8} {ov : Value} {w w1 : World} {a : Option Addr} {n c : Nat} (hI : SI w0 hv acc ov w) (hr : w1.ownsRow (w0.heap.size + 4) 5 1 (.slice a n c) n ((acc ++ bs).map byteV)) (hn : n = (acc ++ bs).length) (hg : w.grownBy w1 ov.ownBlock)
    (hl : ∀ k, (Value.slice a n c).ownBlock = some k → ov.ownBlock = some k ∨ k = w.heap.size) :
    SI w0 hv (acc ++ bs) (.slice a n c) (w1.setCell ⟨w0.heap.size + 2, 0, none⟩ (.slice a n c)) ∧ SF w0 ov (.slice a n c) w (w1.setCell ⟨w0.heap.size + 2, 0, none⟩ (.slice a n c)) := by
  have hb := hI.big
  have hown : ∀ k, ov.ownBlock = some k → w0.heap.size + 4 ≤ k ∧ k < w.heap.size := fun k hk => hI.row.lt k hk
  have F : Fr (fun k => k = w0.heap.size + 2 ∨ ov.ownBlock = some k) w (w1.setCell ⟨w0.heap.size + 2, 0, none⟩ (.slice a n c)) := Fr.setCell ((Fr.refl _ w).grown hg (fun k hk => .inl (.inr hk))) (.inl (.inl rfl)) _
  have n2 : ∀ k, k < w0.heap.size + 4 → k ≠ w0.heap.size + 2 → ¬ (k = w0.heap.size + 2 ∨ ov.ownBlock = some k) := by
    rintro k hk hne (e | e)
    · exact hne e
    · have := hown k e; omega
  refine ⟨{ old := hI.old.trans (F.below (by omega) (fun k hk => n2 k (by omega) (by omega))), big := Nat.le_trans hb F.size, hbox := (F.cell (p := ⟨w0.heap.size, 0, none⟩) (by show w0.heap.size < _; omega) (n2 _ (by show w0.heap.size < _; omega) (by show w0.heap.size ≠ _; omega))).trans hI.hbox, obox := ?_, ofz := ?_, pbox := (F.cell (p := ⟨w0.heap.size + 3, 0, none⟩) (by show w0.heap.size + 3 < _; omega) (n2 _ (by show w0.heap.size + 3 < _; omega) (by show w0.heap.size + 3 ≠ _; omega))).trans hI.pbox, row := ?_ }, F, fun k hk => ?_⟩
  · refine World.cell?_setCell_same _ _ _ (h := ?_) (u := ov)
    rw [hg.cell_far ⟨w0.heap.size + 2, 0, none⟩ (by show w0.heap.size + 2 < _; omega) (fun e => by have := hown _ e.symm; simp at this)]
    exact hI.obox
  · rw [World.frozen?_setCell, hg.frozen_far ⟨w0.heap.size + 2, 0, none⟩ (by show w0.heap.size + 2 < _; omega) (fun e => by have := hown _ e.symm; simp at this)]
    exact hI.ofz
  · rw [← hn]
    exact ownsRow_setCell_below hr (by show w0.heap.size + 2 < _; omega) _
  · rcases hl k hk with e | e
    · exact .inl e
    · exact .inr (by omega)
end Go.Proofs.YtcemfgknnpjlhaaDoor
