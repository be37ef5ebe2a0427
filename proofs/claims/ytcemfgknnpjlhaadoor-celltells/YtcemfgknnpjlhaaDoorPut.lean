/- The closure of Show. -/
import Derived.Test.YtcemfgknnpjlhaaDoorTold
import Derived.Deep.DeepCutAuto
namespace Go.Proofs.YtcemfgknnpjlhaaDoor
open Go.RowKit Go.Ws

theorem execOp_fn {o : Oper} {a : Act} {f : FuncId} {xs : Array Operand} {ats : Array TypeId} (ho : o.op = .call { callee := .value (.func f), args := xs, argTypes := ats }) : execOp a.eval o = callFunc f (#[] ++ xs.map a.eval ++ #[]) := by
  obtain ⟨dst, op, ty, pos, after, guard⟩ := o
  simp only at ho
  subst ho
  rfl
/-- A call of a named function, as a step of a region that draws its order. -/
theorem step_call {P : Program} {w : World} {ops : Array Oper} {o : Oper} {a : Act} {K : Act → World → Prop} {Q : Exit → Act → World → Prop} {E : Prop} (hgd : Region.wanted o (yielded ops a.tmps) = true) (f : FuncId) (fn : Func) (xs : Array Operand) (ats : Array TypeId)
    (ho : o.op = .call { callee := .value (.func f), args := xs, argTypes := ats }) (hf : P.funcs[f]? = some fn) (hname : (fn.name == "runtime.NumGoroutine") = false) (hbody : fn.body.isNone = false) (args : Array Value) (hx : xs.map a.eval = args)
    (R : Ending → World → Prop) (hc : Calls P f args w R) (h : ∀ e w', R e w' → ∃ v, e = .returned v ∧ K (a.put o.dst v) w') :
    if Region.wanted o (yielded ops a.tmps) = true then Oper.wp P o a w K Q else E := by
  rw [if_pos hgd]
  unfold Oper.wp
  rw [execOp_fn ho]
  have hr : (callFunc f (#[] ++ xs.map a.eval ++ #[])).run P w = .ok (.enter f args) w := by
    have h1 : fn.name ≠ "runtime.NumGoroutine" := by simpa using hname
    have h2 : fn.body ≠ none := by intro e; rw [e] at hbody; cases hbody
    simp [callFunc, hf, h1, h2, hx, run_program]
  rw [hr, Oper.upon_enter]
  refine hc.mono fun e w' hR => ?_
  obtain ⟨v, rfl, hk⟩ := h e w' hR
  exact hk

/-- A call of a closure, as a step of a region that draws its order. -/
theorem step_callv {P : Program} {w : World} {ops : Array Oper} {o : Oper} {a : Act} {K : Act → World → Prop} {Q : Exit → Act → World → Prop} {E : Prop} (hgd : Region.wanted o (yielded ops a.tmps) = true) (f : FuncId) (fn : Func) (x : Operand) (xs : Array Operand) (ats : Array TypeId)
    (ho : o.op = .call { callee := .value x, args := xs, argTypes := ats }) (caps : Array Value) (hv : a.eval x = .func (.func f) #[] caps) (hf : P.funcs[f]? = some fn) (hname : (fn.name == "runtime.NumGoroutine") = false) (hbody : fn.body.isNone = false) (args : Array Value) (hx : xs.map a.eval ++ caps = args)
    (R : Ending → World → Prop) (hc : Calls P f args w R) (h : ∀ e w', R e w' → ∃ v, e = .returned v ∧ K (a.put o.dst v) w') :
    if Region.wanted o (yielded ops a.tmps) = true then Oper.wp P o a w K Q else E := by
  rw [if_pos hgd]
  unfold Oper.wp
  have hr : (execOp a.eval o).run P w = .ok (.enter f args) w := by
    have h1 : fn.name ≠ "runtime.NumGoroutine" := by simpa using hname
    have h2 : fn.body ≠ none := by intro e; rw [e] at hbody; cases hbody
    unfold execOp
    simp [ho, resolve, hv, Deferred.ofValue, invoke, callFunc, hf, h1, h2, hx, run_program]
  rw [hr, Oper.upon_enter]
  refine hc.mono fun e w' hR => ?_
  obtain ⟨v, rfl, hk⟩ := h e w' hR
  exact hk

theorem wrapE {n : Int} (h0 : -9223372036854775808 ≤ n) (h1 : n ≤ 9223372036854775807) : IntKind.i64.wrap n = n := by
  rw [IntKind.wrap_i64]; omega
theorem size5 : (Tryd.prog.info? 5).map (fun i => (i.zero, i.size, i.bytes)) = some (some (.int .u8 0), 1, 1) := by kernel_rfl

/-- The table that Itoa reads. -/
abbrev Tab (w : World) : Prop := Lib.TabIs Tryd.prog w "internal/strconv.uint64pow10" .u64 Lib.pow10Tab

theorem grow_fr (w : World) (n : Nat) (os : Array Obj) : Fr nothing w (Sort.grow (w.drewN n) os) :=
  ⟨rfl, rfl, rfl, by simp [Sort.grow], fun k hk _ => by simp [Sort.grow, Array.getElem?_append_left hk]⟩

theorem strCells_eq (s : ByteArray) : Lib.strCells s = s.data.toList.map byteV := rfl

/-- What a put answers. -/
def PutPost (w0 : World) (hv : Value) (acc bs : List UInt8) (ov : Value) (w : World) : Ending → World → Prop :=
  fun e w' => e = .returned (.tuple #[]) ∧ ∃ ov', SI w0 hv (acc ++ bs) ov' w' ∧ SF w0 ov ov' w w'

theorem fr_grown {w w1 w2 : World} {row : Option Nat} (hf : Fr nothing w w1) (hg : w1.grownBy w2 row) {b : Nat} (hb : b < w.heap.size) (hne : some b ≠ row) {v : Value} (h : w.cell? ⟨b, 0, none⟩ = some v) : w2.cell? ⟨b, 0, none⟩ = some v := by
  rw [hg.cell_far ⟨b, 0, none⟩ (Nat.lt_of_lt_of_le hb hf.size) hne, hf.cell (p := ⟨b, 0, none⟩) hb id, h]
theorem fr_grownf {w w1 w2 : World} {row : Option Nat} (hf : Fr nothing w w1) (hg : w1.grownBy w2 row) {b : Nat} (hb : b < w.heap.size) (hne : some b ≠ row) {v : Bool} (h : w.frozen? ⟨b, 0, none⟩ = v) : w2.frozen? ⟨b, 0, none⟩ = v := by
  rw [hg.frozen_far ⟨b, 0, none⟩ (Nat.lt_of_lt_of_le hb hf.size) hne, hf.frozen (p := ⟨b, 0, none⟩) hb id, h]
theorem grown1 {w w1 : World} {O : Obj} {row : Option Nat} (hg : (w.alloc O).grownBy w1 row) {b : Nat} (hb : b < w.heap.size) (hne : some b ≠ row) {v : Value} (h : w.cell? ⟨b, 0, none⟩ = some v) : w1.cell? ⟨b, 0, none⟩ = some v := by
  rw [hg.cell_far ⟨b, 0, none⟩ (by simp; omega) hne, World.cell?_alloc_past _ _ _ hb, h]
theorem grown1f {w w1 : World} {O : Obj} {row : Option Nat} (hg : (w.alloc O).grownBy w1 row) {b : Nat} (hb : b < w.heap.size) (hne : some b ≠ row) {v : Bool} (h : w.frozen? ⟨b, 0, none⟩ = v) : w1.frozen? ⟨b, 0, none⟩ = v := by
  rw [hg.frozen_far ⟨b, 0, none⟩ (by simp; omega) hne, World.frozen?_alloc_past _ _ _ hb, h]

theorem put_fin {w0 : World} {hv : Value} {acc bs : List UInt8} {ov : Value} {w wm w1 : World} {a : Option Addr} {n c : Nat} (hI : SI w0 hv acc ov w) (hf : Fr nothing w wm) (hr : w1.ownsRow (w0.heap.size + 4) 5 1 (.slice a n c) n ((acc ++ bs).map byteV)) (hn : n = (acc ++ bs).length) (hg : wm.grownBy w1 ov.ownBlock)
    (hl : ∀ k, (Value.slice a n c).ownBlock = some k → ov.ownBlock = some k ∨ k = wm.heap.size) : PutPost w0 hv acc bs ov w (.returned (.tuple #[])) (w1.setCell ⟨w0.heap.size + 2, 0, none⟩ (.slice a n c)) := by
  have := (hI.news hf).more hr hn hg hl
  exact ⟨rfl, _, this.1, (SF.news hf).trans this.2⟩

set_option maxHeartbeats 400000 in
theorem put_text (w0 : World) (hv : Value) (acc : List UInt8) (oa : Option Addr) (oc : Nat) (w : World) (v : Val) (deep : Int) (hI : SI w0 hv acc (.slice oa acc.length oc) w) (hk : v.k = 1) (hb : acc.length + v.t.size ≤ 1099511627776) :
    Calls Tryd.prog 33 #[vv v, .int .i64 deep, .pointer (some ⟨w0.heap.size + 2, 0, none⟩), .pointer (some ⟨w0.heap.size, 0, none⟩), .pointer (some ⟨w0.heap.size + 3, 0, none⟩)] w (PutPost w0 hv acc v.t.data.toList (.slice oa acc.length oc) w) := by
  obtain ⟨vk, vn, vt⟩ := v
  simp only at hk hb ⊢
  subst hk
  have ob := hI.obox
  have of := hI.ofz
  have hB := hI.big
  have hB2 : w0.heap.size + 2 < w.heap.size := by omega
  have hrow := hI.row
  have HI := hide hI
  have O2 := hide (owns_far hrow (b := w0.heap.size + 2) (by omega))
  clear hI
  obtain ⟨i0, hi0, hz0, hz1, hz2⟩ := info_parts size5
  go_enter Tryd.func33, Tryd.ntmps33
  go_wp2_with (at_builtin; go_must (refine wpList_append_str _ rfl _ _ 56 9 rfl (w0.heap.size + 4) 5 i0 Tryd.underlying56 Tryd.underlying9 hi0 hz0 hz1 hz2 (.slice oa acc.length oc) _ _ rfl (hrow.alloc _) vt rfl (by unfold maxLen; omega) (by omega) (by simp; omega) ?_); intro a1 c1 w1 hr1 hg1 hl1; have k1 := grown1 hg1 hB2 O2.out ob; have k2 := grown1f hg1 hB2 O2.out of; clear hrow ob of)
  go_end0
  exact put_fin HI.out ((Fr.refl _ _).alloc _) (by simpa [strCells_eq] using hr1) (by simp) hg1 hl1

set_option maxHeartbeats 400000 in
theorem put_int (w0 : World) (hv : Value) (acc : List UInt8) (oa : Option Addr) (oc : Nat) (w : World) (v : Val) (deep : Int) (hI : SI w0 hv acc (.slice oa acc.length oc) w) (ht : Tab w0) (hk : v.k = 0) (h0 : -9223372036854775808 ≤ v.n) (h1 : v.n ≤ 9223372036854775807) (hb : acc.length + 21 ≤ 1099511627776) :
    Calls Tryd.prog 33 #[vv v, .int .i64 deep, .pointer (some ⟨w0.heap.size + 2, 0, none⟩), .pointer (some ⟨w0.heap.size, 0, none⟩), .pointer (some ⟨w0.heap.size + 3, 0, none⟩)] w (PutPost w0 hv acc (Lib.itoa v.n) (.slice oa acc.length oc) w) := by
  obtain ⟨vk, vn, vt⟩ := v
  simp only at hk hb h0 h1 ⊢
  subst hk
  have ob := hI.obox
  have of := hI.ofz
  have hB := hI.big
  have hB2 : w0.heap.size + 2 < w.heap.size := by omega
  have hrow := hI.row
  have HI := hide hI
  have O2 := hide (owns_far hrow (b := w0.heap.size + 2) (by omega))
  have HT : Hid (∀ w', Below w0.heap.size w0 w' → Tab w') := Lib.tabBelow_of_tabIs ht
  have hlen : (Lib.itoa vn).length ≤ 21 := Lib.itoa_length_le vn h0 h1
  have hsz : (⟨(Lib.itoa vn).toArray⟩ : ByteArray).size = (Lib.itoa vn).length := rfl
  have HR := hide hrow
  clear hI ht hrow
  obtain ⟨i0, hi0, hz0, hz1, hz2⟩ := info_parts size5
  go_enter Tryd.func33, Tryd.ntmps33
  go_wp2
  go_region_law (first
    | (refine step_call rfl 34 Tryd.f34 #[.tmp 13] #[3] rfl Tryd.func34 (by kernel_rfl) (by kernel_rfl) #[.int .i64 vn] (by simp [Act.eval]) _ (Tryd.strconv_Itoa vn h0 h1 _ (HT.out _ (by exact (HI.out.old.alloc (by omega) _).drew))) ?_; rintro e w2 ⟨rfl, q2, os2, he2⟩; have F2 : Hid (Fr nothing w w2) := (by rw [he2]; exact ((Fr.refl _ _).alloc _).drew.trans (grow_fr _ _ _)); clear he2; have s2 : w0.heap.size + 2 < w2.heap.size := Nat.lt_of_lt_of_le hB2 F2.out.size; have ob2 := (F2.out.cell (p := ⟨w0.heap.size + 2, 0, none⟩) hB2 id).trans ob; refine ⟨_, rfl, ?_⟩)
    | (refine step_append_str _ rfl (.tmp 11) (.tmp 14) 56 9 rfl (w0.heap.size + 4) 5 i0 Tryd.underlying56 Tryd.underlying9 hi0 hz0 hz1 hz2 (.slice oa acc.length oc) acc.length (acc.map byteV) (by simp [Act.eval]) (by exact owns_fr HR.out F2.out (fun _ _ => id)) ⟨(Lib.itoa vn).toArray⟩ (by simp [Act.eval]) (by rw [hsz]; unfold maxLen; omega) (by rw [hsz]; omega) (by have := F2.out.size; omega) ?_; intro a1 c1 w3 hr3 hg3 hl3; have k1 := fr_grown F2.out hg3 hB2 O2.out ob; have k2 := fr_grownf F2.out hg3 hB2 O2.out of))
  all_goals go_wp2
  all_goals go_end0
  all_goals exact put_fin HI.out F2.out (by simpa [strCells_eq, hsz] using hr3) (by simp) hg3 hl3

set_option maxHeartbeats 400000 in
theorem put_dots (w0 : World) (hv : Value) (acc : List UInt8) (oa : Option Addr) (oc : Nat) (w : World) (v : Val) (deep : Int) (hI : SI w0 hv acc (.slice oa acc.length oc) w) (hk : v.k = 2) (hd : deep ≤ 0) (hb : acc.length + 2 ≤ 1099511627776) :
    Calls Tryd.prog 33 #[vv v, .int .i64 deep, .pointer (some ⟨w0.heap.size + 2, 0, none⟩), .pointer (some ⟨w0.heap.size, 0, none⟩), .pointer (some ⟨w0.heap.size + 3, 0, none⟩)] w (PutPost w0 hv acc [46, 46] (.slice oa acc.length oc) w) := by
  obtain ⟨vk, vn, vt⟩ := v
  simp only at hk hb ⊢
  subst hk
  have ob := hI.obox
  have of := hI.ofz
  have hB := hI.big
  have hB2 : w0.heap.size + 2 < w.heap.size := by omega
  have hrow := hI.row
  have HI := hide hI
  have O2 := hide (owns_far hrow (b := w0.heap.size + 2) (by omega))
  clear hI
  obtain ⟨i0, hi0, hz0, hz1, hz2⟩ := info_parts size5
  have hsz : (⟨#[46, 46]⟩ : ByteArray).size = 2 := rfl
  go_enter Tryd.func33, Tryd.ntmps33
  go_wp2_with (at_builtin; go_must (refine wpList_append_str _ rfl _ _ 56 9 rfl (w0.heap.size + 4) 5 i0 Tryd.underlying56 Tryd.underlying9 hi0 hz0 hz1 hz2 (.slice oa acc.length oc) _ _ rfl (hrow.alloc _) ⟨#[46, 46]⟩ rfl (by rw [hsz]; unfold maxLen; omega) (by rw [hsz]; omega) (by simp; omega) ?_); intro a1 c1 w1 hr1 hg1 hl1; have k1 := grown1 hg1 hB2 O2.out ob; have k2 := grown1f hg1 hB2 O2.out of; clear hrow ob of)
  go_end0
  exact put_fin HI.out ((Fr.refl _ _).alloc _) (by simpa [strCells_eq, hsz] using hr1) (by simp) hg1 hl1

/-- One byte put behind. -/
theorem put_byte {w0 : World} {hv : Value} {acc : List UInt8} {ov : Value} {w wm w1 : World} {g n cp : Nat} {c : UInt8} (hI : SI w0 hv acc ov w) (hf : Fr nothing w wm) (hr : w1.ownsRow (w0.heap.size + 4) 5 1 (.slice (some ⟨g, 0, none⟩) (acc.length + 1) cp) (acc.length + 1) (acc.map byteV ++ [byteV c])) (hn : n = acc.length + 1) (hg : wm.grownBy w1 ov.ownBlock)
    (hat : ov.ownBlock = some g ∨ g = wm.heap.size) : SI w0 hv (acc ++ [c]) (.slice (some ⟨g, 0, none⟩) n cp) (w1.setCell ⟨w0.heap.size + 2, 0, none⟩ (.slice (some ⟨g, 0, none⟩) n cp)) ∧ SF w0 ov (.slice (some ⟨g, 0, none⟩) n cp) w (w1.setCell ⟨w0.heap.size + 2, 0, none⟩ (.slice (some ⟨g, 0, none⟩) n cp)) := by
  subst hn
  have := (hI.news hf).more (bs := [c]) (a := some ⟨g, 0, none⟩) (n := acc.length + 1) (c := cp) (by simpa using hr) (by simp) hg (fun k hk => by
    have e : g = k := by simpa [Value.ownBlock] using hk
    rw [← e]; exact hat)
  exact ⟨this.1, (SF.news hf).trans this.2⟩
theorem newB (w : World) (B : Nat) (hB : B = w.heap.size) (c : Int) (t : TypeId) : ∀ j u, [Value.int .u8 c][j]? = some u → (w.alloc (.cells #[.int .u8 c] t)).cell? ((⟨B, 0, none⟩ : Addr).add j) = some u := by
  subst hB
  exact World.news_of_block (cs := #[.int .u8 c]) (t := t) (fr := (0, 0)) (heap_new _ _)
theorem byte_one (c : Int) : ∀ u ∈ [Value.int .u8 c], u.oneCell' = true := by simp [Value.oneCell']
/-- The value's own box stays. -/
theorem box_stays {w0 : World} {hv : Value} {acc : List UInt8} {ov ov' : Value} {w wx : World} {cs : Array Value} {t : TypeId} (hI : SI w0 hv acc ov w) (hF : SF w0 ov ov' (w.alloc (.cells cs t)) wx) : (∀ j, wx.cell? ⟨w.heap.size, j, none⟩ = cs[j]?) ∧ w.heap.size < wx.heap.size := by
  have hb := hI.big
  refine ⟨fun j => ?_, by have := hF.1.size; simp at this; omega⟩
  rw [hF.1.cell (p := ⟨w.heap.size, j, none⟩) (by simp) ?_, World.cell?_alloc_new]
  rintro (e | e)
  · simp at e; omega
  · have := (hI.row.lt _ e).2; simp at this
theorem SI.shape {w0 : World} {hv : Value} {acc : List UInt8} {ov : Value} {w : World} (hI : SI w0 hv acc ov w) : ∃ oa oc, ov = .slice oa acc.length oc := by
  rcases hI.row.2 with ⟨rfl, h0⟩ | ⟨g, c, _, rfl, _⟩
  · exact ⟨none, 0, by rw [h0]⟩
  · exact ⟨_, _, rfl⟩

theorem cellAt_mem {cl : List Cel} {i : Nat} (hi : i < cl.length) : cellAt cl i ∈ cl := by
  unfold cellAt
  rw [List.getD_eq_getElem?_getD, List.getElem?_eq_getElem hi]
  exact List.getElem_mem hi

/-- What put answers of the cells' values, so deep. -/
def PutsAll (w0 : World) (cl : List Cel) (hv : Value) (d : Nat) : Prop :=
  ∀ (v : Val) (deep : Int) (acc : List UInt8) (ov : Value) (w : World), deep.toNat = d → deep ≤ 5 → -9223372036854775808 ≤ deep → okV cl.length v = true → WfV v → acc.length + 64 * 2 ^ d ≤ 1099511627776 → SI w0 hv acc ov w →
    Calls Tryd.prog 33 #[vv v, .int .i64 deep, .pointer (some ⟨w0.heap.size + 2, 0, none⟩), .pointer (some ⟨w0.heap.size, 0, none⟩), .pointer (some ⟨w0.heap.size + 3, 0, none⟩)] w (PutPost w0 hv acc (showV cl d v) ov w)

set_option maxHeartbeats 400000 in
theorem put_node (w0 : World) (cl : List Cel) (ha : Option Addr) (hc : Nat) (d : Nat) (ih : PutsAll w0 cl (.slice ha cl.length hc) d) (hs : Sl encC 6 w0 (.slice ha cl.length hc) cl) (okc : ∀ c ∈ cl, okC cl.length c = true ∧ WfC c)
    (acc : List UInt8) (oa : Option Addr) (oc : Nat) (w : World) (i : Nat) (t : ByteArray) (deep : Int) (hdp : deep.toNat = d + 1) (hd5 : deep ≤ 5) (hi : i < cl.length) (hb : acc.length + 64 * 2 ^ (d + 1) ≤ 1099511627776) (hl : ∀ v, (okV cl.length v = true) → WfV v → (showV cl d v).length + 3 ≤ 64 * 2 ^ d)
    (hI : SI w0 (.slice ha cl.length hc) acc (.slice oa acc.length oc) w) :
    Calls Tryd.prog 33 #[vv ⟨2, i, t⟩, .int .i64 deep, .pointer (some ⟨w0.heap.size + 2, 0, none⟩), .pointer (some ⟨w0.heap.size, 0, none⟩), .pointer (some ⟨w0.heap.size + 3, 0, none⟩)] w (PutPost w0 (.slice ha cl.length hc) acc (40 :: (showV cl d (cellAt cl i).l ++ 32 :: (showV cl d (cellAt cl i).r ++ [41]))) (.slice oa acc.length oc) w) := by
  obtain ⟨b, off, cap, he, hbl, c0, c1, c2, c3, c4, c5⟩ := cells_of_sl hs hi
  obtain ⟨rfl, rfl⟩ : ha = some ⟨b, off, none⟩ ∧ hc = cap := by simpa using he
  have ob := hI.obox
  have of := hI.ofz
  have hbx := hI.hbox
  have hB := hI.big
  have hB2 : w0.heap.size + 2 < w.heap.size := by omega
  have hB0 : w0.heap.size < w.heap.size := by omega
  have hlen : cl.length ≤ maxLen := by obtain ⟨_, _, _, h, _⟩ := hs; exact h
  unfold maxLen at hlen
  have hpos : 0 < deep := by omega
  have hacc : acc.length + 128 ≤ 1099511627776 := by have : 1 ≤ 2 ^ d := Nat.one_le_two_pow; omega
  have HP := hide (And.intro hb hl)
  have HC := hide (And.intro c0 (And.intro c1 (And.intro c2 (And.intro c3 (And.intro c4 c5)))))
  have HR := hide hI.row
  have HI := hide hI
  have IH := hide ih
  have HS := hide hs
  have HK := hide okc
  have O2 := hide (owns_far hI.row (b := w0.heap.size + 2) (by omega))
  have hn : (decide (0 ≤ (i : Int)) && decide ((i : Int) < (cl.length : Int))) = true := by simp; omega
  clear hI ih hs okc he hb hl c0 c1 c2 c3 c4 c5
  obtain ⟨i0, hi0, hz0, hz1, hz2⟩ := info_parts size5
  go_enter Tryd.func33, Tryd.ntmps33
  go_wp2_with (first
    | (go_at_call 24; refine (within_any _ _ _).mono ?_; rw [hn]; rintro e w' ⟨rfl, rfl⟩)
    | (at_builtin; go_must (refine wpList_append_lies _ rfl _ _ 56 rfl (w0.heap.size + 4) 5 i0 (.int .u8 0) 1 1 Tryd.underlying56 hi0 hz0 hz1 hz2 rfl (by decide) (.slice oa acc.length oc) acc.length (acc.map byteV) rfl ((HR.out.alloc _).alloc _) ⟨w.heap.size + 1, 0, none⟩ 1 1 [.int .u8 40] rfl rfl (newB _ _ (by simp) 40 5) (byte_one 40) (by decide) (by unfold maxLen; omega) (by omega) (by simp; omega) _ rfl ?_); intro g cp w1 hr1 hg1 hat1 hlt1; have k1 := fr_grown (((Fr.refl nothing w).alloc _).alloc _) hg1 hB2 O2.out ob; have k2 := fr_grownf (((Fr.refl nothing w).alloc _).alloc _) hg1 hB2 O2.out of; clear ob of hbx))
  have P2 := put_byte (c := 40) (HI.out.news ((Fr.refl nothing w).alloc (.cells #[.int .i64 2, .int .i64 i, .string t] 25))) ((Fr.refl nothing _).alloc _) hr1 rfl hg1 hat1
  obtain ⟨w2, hw2⟩ : ∃ w2, w2 = w1.setCell ⟨w0.heap.size + 2, 0, none⟩ (.slice (some ⟨g, 0, none⟩) (acc.length + 1) cp) := ⟨_, rfl⟩
  rw [← hw2] at P2 ⊢
  clear hw2 k1 k2 hr1 hg1 hat1 hlt1
  have hok := HK.out (cellAt cl i) (cellAt_mem hi)
  have okl : okV cl.length (cellAt cl i).l = true := by have := hok.1; unfold okC at this; simp at this; exact this.1
  have okr : okV cl.length (cellAt cl i).r = true := by have := hok.1; unfold okC at this; simp at this; exact this.2
  have HOK := hide (And.intro okl (And.intro okr hok.2))
  clear okl okr hok HK
  have HP2 := hide P2
  obtain ⟨bx, bs⟩ := box_stays HI.out P2.2
  have x1 := bx 1
  simp only [List.getElem?_toArray, List.getElem?_cons_zero, List.getElem?_cons_succ] at x1
  have a1 := P2.1.hbox
  have a2 := P2.1.pbox
  have a4 := P2.1.big
  obtain ⟨c0, c1, c2, _⟩ := HC.out
  rw [← P2.1.old.cell (p := ⟨b, _, none⟩) hbl] at c0 c1 c2
  have hb2 : b < w2.heap.size := by omega
  clear P2 bx
  have hwr : IntKind.i64.wrap (deep - 1) = deep - 1 := wrapE (by omega) (by omega)
  have CL := hide (IH.out (cellAt cl i).l (deep - 1) _ _ _ (by omega) (by omega) (by omega) HOK.out.1 HOK.out.2.2.1 (by have := HP.out.1; rw [Nat.pow_succ] at this; rw [List.length_append]; simp only [List.length_cons, List.length_nil]; have := Nat.one_le_two_pow (n := d); omega) (HP2.out.1.news ((Fr.refl nothing w2).drew)))
  go_cut [] (fun wx => ∃ ov3, Hid (SI w0 (.slice (some ⟨b, off, none⟩) cl.length hc) ((acc ++ [40]) ++ showV cl d (cellAt cl i).l) ov3 wx ∧ SF w0 (.slice oa acc.length oc) ov3 (w.alloc (.cells #[.int .i64 2, .int .i64 i, .string t] 25)) wx))
  case first =>
    go_region_law (refine step_callv rfl 33 Tryd.f33 (.tmp 39) #[.tmp 45, .tmp 47] #[25, 3] rfl #[.pointer (some ⟨w0.heap.size + 2, 0, none⟩), .pointer (some ⟨w0.heap.size, 0, none⟩), .pointer (some ⟨w0.heap.size + 3, 0, none⟩)] (by simp [Act.eval]) Tryd.func33 (by kernel_rfl) (by kernel_rfl) #[vv (cellAt cl i).l, .int .i64 (deep - 1), .pointer (some ⟨w0.heap.size + 2, 0, none⟩), .pointer (some ⟨w0.heap.size, 0, none⟩), .pointer (some ⟨w0.heap.size + 3, 0, none⟩)] (by simp [Act.eval]) _ (by exact CL.out) ?_; rintro e w3 ⟨rfl, ov3, hI3, hF3⟩; refine ⟨_, rfl, ?_⟩)
    all_goals
      go_wp2
      go_meet
      case rel => exact ⟨ov3, hI3, (HP2.out.2.trans (SF.news ((Fr.refl _ _).drew))).trans hF3⟩
  case rest =>
    clear CL HP2 x1 a1 a2 a4 bs c0 c1 c2 hb2 w2
    obtain ⟨ov3, H3⟩ := hcut
    have HL := hide (HP.out.2 (cellAt cl i).l HOK.out.1 HOK.out.2.2.1)
    have HL2 := hide (HP.out.2 (cellAt cl i).r HOK.out.2.1 HOK.out.2.2.2)
    have hl3 : (acc ++ [40] ++ showV cl d (cellAt cl i).l).length + 2 + 64 * 2 ^ d ≤ 1099511627776 := by have h1 := HP.out.1; have h2 := HL.out; have h3 := Nat.one_le_two_pow (n := d); rw [Nat.pow_succ] at h1; simp only [List.length_append, List.length_cons, List.length_nil]; omega
    generalize hA : acc ++ [40] ++ showV cl d (cellAt cl i).l = acc3 at H3 hl3
    have HA := hide hA
    clear hA
    have h2d := Nat.one_le_two_pow (n := d)
    generalize hpd : 2 ^ d = pd at hl3 h2d
    have HPD := hide hpd
    clear hpd
    obtain ⟨oa3, oc3, rfl⟩ := H3.out.1.shape
    have ob3 := H3.out.1.obox
    have of3 := H3.out.1.ofz
    have hB3 := H3.out.1.big
    have hB32 : w0.heap.size + 2 < wc.heap.size := by omega
    have O3 := hide (owns_far H3.out.1.row (b := w0.heap.size + 2) (by omega))
    go_wp2_with (at_builtin; go_must (refine wpList_append_lies _ rfl _ _ 56 rfl (w0.heap.size + 4) 5 i0 (.int .u8 0) 1 1 Tryd.underlying56 hi0 hz0 hz1 hz2 rfl (by decide) (.slice oa3 acc3.length oc3) acc3.length (acc3.map byteV) rfl (H3.out.1.row.alloc _) ⟨wc.heap.size, 0, none⟩ 1 1 [.int .u8 32] rfl rfl (newB _ _ rfl 32 5) (byte_one 32) (by decide) (by unfold maxLen; omega) (by omega) (by simp; omega) _ rfl ?_); intro g cp w1 hr1 hg1 hat1 hlt1; have k1 := fr_grown ((Fr.refl nothing wc).alloc _) hg1 hB32 O3.out ob3; have k2 := fr_grownf ((Fr.refl nothing wc).alloc _) hg1 hB32 O3.out of3; clear ob3 of3)
    have P4 := put_byte (c := 32) H3.out.1 ((Fr.refl nothing _).alloc _) hr1 rfl hg1 hat1
    obtain ⟨w4, hw4⟩ : ∃ w4, w4 = w1.setCell ⟨w0.heap.size + 2, 0, none⟩ (.slice (some ⟨g, 0, none⟩) (acc3.length + 1) cp) := ⟨_, rfl⟩
    rw [← hw4] at P4 ⊢
    clear hw4 k1 k2 hr1 hg1 hat1 hlt1
    have P5 := And.intro P4.1 (H3.out.2.trans P4.2)
    clear P4
    have HP4 := hide P5
    obtain ⟨bx, bs⟩ := box_stays HI.out P5.2
    have x1 := bx 1
    simp only [List.getElem?_toArray, List.getElem?_cons_zero, List.getElem?_cons_succ] at x1
    have a1 := P5.1.hbox
    have a2 := P5.1.pbox
    have a4 := P5.1.big
    obtain ⟨_, _, _, c3, c4, c5⟩ := HC.out
    rw [← P5.1.old.cell (p := ⟨b, _, none⟩) hbl] at c3 c4 c5
    have hb4 : b < w4.heap.size := by omega
    clear P5 bx
    have CL := hide (IH.out (cellAt cl i).r (deep - 1) _ _ _ (by omega) (by omega) (by omega) HOK.out.2.1 HOK.out.2.2.2 (by rw [List.length_append, HPD.out]; simp only [List.length_cons, List.length_nil]; omega) (HP4.out.1.news ((Fr.refl nothing w4).drew)))
    go_cut [] (fun wx => ∃ ov5, Hid (SI w0 (.slice (some ⟨b, off, none⟩) cl.length hc) ((acc3 ++ [32]) ++ showV cl d (cellAt cl i).r) ov5 wx ∧ SF w0 (.slice oa acc.length oc) ov5 (w.alloc (.cells #[.int .i64 2, .int .i64 i, .string t] 25)) wx))
    case first =>
      go_region_law (refine step_callv rfl 33 Tryd.f33 (.tmp 52) #[.tmp 58, .tmp 60] #[25, 3] rfl #[.pointer (some ⟨w0.heap.size + 2, 0, none⟩), .pointer (some ⟨w0.heap.size, 0, none⟩), .pointer (some ⟨w0.heap.size + 3, 0, none⟩)] (by simp [Act.eval]) Tryd.func33 (by kernel_rfl) (by kernel_rfl) #[vv (cellAt cl i).r, .int .i64 (deep - 1), .pointer (some ⟨w0.heap.size + 2, 0, none⟩), .pointer (some ⟨w0.heap.size, 0, none⟩), .pointer (some ⟨w0.heap.size + 3, 0, none⟩)] (by simp [Act.eval]) _ (by exact CL.out) ?_; rintro e w3 ⟨rfl, ov5, hI5, hF5⟩; refine ⟨_, rfl, ?_⟩)
      all_goals
        go_wp2
        go_meet
        case rel => exact ⟨ov5, hI5, (HP4.out.2.trans (SF.news ((Fr.refl _ _).drew))).trans hF5⟩
    case rest =>
      clear CL HP4 x1 a1 a2 a4 bs c3 c4 c5 hb4 w4
      obtain ⟨ov5, H5⟩ := hcut
      have hl5 : (acc3 ++ [32] ++ showV cl d (cellAt cl i).r).length + 2 ≤ 1099511627776 := by have h2 := HL2.out; rw [HPD.out] at h2; simp only [List.length_append, List.length_cons, List.length_nil]; omega
      generalize hA5 : acc3 ++ [32] ++ showV cl d (cellAt cl i).r = acc5 at H5 hl5
      have HA5 := hide hA5
      clear hA5
      obtain ⟨oa5, oc5, rfl⟩ := H5.out.1.shape
      have ob5 := H5.out.1.obox
      have of5 := H5.out.1.ofz
      have hB5 := H5.out.1.big
      have hB52 : w0.heap.size + 2 < wc.heap.size := by omega
      have O5 := hide (owns_far H5.out.1.row (b := w0.heap.size + 2) (by omega))
      go_wp2_with (at_builtin; go_must (refine wpList_append_lies _ rfl _ _ 56 rfl (w0.heap.size + 4) 5 i0 (.int .u8 0) 1 1 Tryd.underlying56 hi0 hz0 hz1 hz2 rfl (by decide) (.slice oa5 acc5.length oc5) acc5.length (acc5.map byteV) rfl (H5.out.1.row.alloc _) ⟨wc.heap.size, 0, none⟩ 1 1 [.int .u8 41] rfl rfl (newB _ _ rfl 41 5) (byte_one 41) (by decide) (by unfold maxLen; omega) (by omega) (by simp; omega) _ rfl ?_); intro g cp w1 hr1 hg1 hat1 hlt1; have k1 := fr_grown ((Fr.refl nothing wc).alloc _) hg1 hB52 O5.out ob5; have k2 := fr_grownf ((Fr.refl nothing wc).alloc _) hg1 hB52 O5.out of5; clear ob5 of5)
      go_end0
      have P6 := put_byte (c := 41) H5.out.1 ((Fr.refl nothing _).alloc _) hr1 rfl hg1 hat1
      refine ⟨rfl, _, ?_, (SF.news ((Fr.refl _ _).alloc _)).trans (H5.out.2.trans P6.2)⟩
      have e : acc ++ 40 :: (showV cl d (cellAt cl i).l ++ 32 :: (showV cl d (cellAt cl i).r ++ [41])) = acc5 ++ [41] := by rw [← HA5.out, ← HA.out]; simp
      rw [e]
      exact P6.1
end Go.Proofs.YtcemfgknnpjlhaaDoor
