/- WireTurns: the walk. -/
import Derived.Test.YtcfjieebcgpapaaAlive
import Derived.Deep.RegionHeld3
import Derived.Deep.DeepCutAuto
import Derived.Deep.Upon
namespace Go.Proofs.Ytcfjieebcgpapaa
open Go.RowKit Go.Lib

theorem get_back (n : Int) (h0 : -9223372036854775808 ≤ n) (h1 : n ≤ 9223372036854775807) (b : List UInt8) : getB 0 0 (uvarint (zigzag n) ++ b) = (n, ((uvarint (zigzag n)).length : Int), 0) := by
  rw [getB_back (zigzag n) 0 0 b (by decide) (zig_lt h0 h1) (by omega)]
  simp [unzig_zigzag]
theorem get_less (n : Int) (h0 : -9223372036854775808 ≤ n) (h1 : n ≤ 9223372036854775807) : getB 0 0 ((uvarint (zigzag n)).take ((uvarint (zigzag n)).length - 1)) = (0, 0, 8) :=
  getB_less _ 0 0 (by decide) (zig_lt h0 h1)
theorem get_cases (l : List UInt8) : (∃ e, e ≠ 0 ∧ getB 0 0 l = (0, 0, e)) ∨ ∃ (x : Int) (k : Nat), getB 0 0 l = (x, (k : Int), 0) ∧ -9223372036854775808 ≤ x ∧ x ≤ 9223372036854775807 ∧ 1 ≤ k ∧ k ≤ l.length ∧ l.take k = uvarint (zigzag x) := by
  by_cases h : (getB 0 0 l).2.2 = 0
  · right
    obtain ⟨u, k, he, hk, hl, ht, hu, _⟩ := getB_own l 0 0 (by decide) h
    have hu' : u < 18446744073709551616 := hu
    refine ⟨unzig u, k, ?_, unzig_lo hu', unzig_hi hu', hk, hl, by rw [ht, zigzag_unzig]⟩
    rw [he]; simp
  · left
    have := getB_err l 0 0 h
    refine ⟨_, h, ?_⟩
    conv => lhs; rw [show getB 0 0 l = ((getB 0 0 l).1, (getB 0 0 l).2.1, (getB 0 0 l).2.2) from rfl, this.1, this.2]

theorem get_is {w : World} {v : Value} {l : List UInt8} {x k e : Int} (hs : Sl encB 1 w v l) (h : getB 0 0 l = (x, k, e)) : Calls Try.prog 6 #[v] w fun r w' => r = .returned (.tuple #[.int .i64 x, .int .i64 k, .int .i64 e]) ∧ w' = w := by
  have := get_any w v l hs
  rw [h] at this
  exact this
theorem sl_take {w : World} {ao : Option Addr} {c : Nat} {l : List UInt8} (h : Sl encB 1 w (.slice ao l.length c) l) {j : Nat} (hj : j ≤ l.length) (c' : Nat) : Sl encB 1 w (.slice ao j c') (l.take j) := by
  obtain ⟨a, cap, he, hm, hc⟩ := h
  injection he with h1 h2 h3
  subst h1
  have hl : (l.take j).length = j := by rw [List.length_take]; omega
  refine ⟨ao, c', by rw [hl], by rw [hl]; omega, fun i x hx => hc i x ?_⟩
  rw [List.getElem?_take] at hx
  by_cases hi : i < j
  · rwa [if_pos hi] at hx
  · rw [if_neg hi] at hx; cases hx
theorem bytes_ones (l : List UInt8) : ∀ u ∈ l.map byteV, u.oneCell' = true := by
  intro u hu
  obtain ⟨x, _, rfl⟩ := List.mem_map.1 hu
  simp [Value.oneCell']
theorem add_eq (b o j : Nat) : (⟨b, o, none⟩ : Addr).add j = ⟨b, o + j, none⟩ := by
  by_cases h0 : j = 0 <;> simp [Addr.add, h0]
theorem sl_news {w w' : World} {b off c : Nat} {l : List UInt8} (hs : Sl encB 1 w (.slice (some ⟨b, off, none⟩) l.length c) l) (hb : Below w.heap.size w w') : ∀ j u, (l.map byteV)[j]? = some u → w'.cell? ((⟨b, off, none⟩ : Addr).add j) = some u := by
  intro j u hj
  have hl : j < l.length := by simpa using (List.getElem?_eq_some_iff.1 hj).1
  obtain ⟨b', off', he, hbl, hc⟩ := byte_at hs hl
  obtain ⟨rfl, rfl⟩ : b = b' ∧ off = off' := by simpa using he
  rw [add_eq, hb.cell (p := ⟨b, _, none⟩) hbl, hc, ← hj]
  simp [List.getElem?_eq_getElem hl]
theorem row_empty (w : World) (t : TypeId) {base : Nat} (hb : base ≤ w.heap.size) : (w.alloc (.cells #[] t)).ownsRow base t 1 (.slice (some ⟨w.heap.size, 0, none⟩) 0 0) 0 [] :=
  World.ownsRow_lit (e := t) w #[] 0 (size := 1) hb (by unfold maxLen; omega) rfl
theorem row_news {w w' : World} {base g n c : Nat} {l : List UInt8} (hr : w.ownsRow base 5 1 (.slice (some ⟨g, 0, none⟩) n c) n (l.map byteV)) (hb : Below w.heap.size w w') : ∀ j u, (l.map byteV)[j]? = some u → w'.cell? ((⟨g, 0, none⟩ : Addr).add j) = some u := by
  intro j u hj
  have hl : j < l.length := by simpa using (List.getElem?_eq_some_iff.1 hj).1
  have hn : l.length = n := by simpa using hr.1
  have hlt := (hr.lt g (by simp [Value.ownBlock])).2
  rw [add_eq, Nat.zero_add, hb.cell (p := ⟨g, _, none⟩) hlt, hr.cellAt j (by omega), hj]

theorem execOp_fn {o : Oper} {a : Act} {f : FuncId} {xs : Array Operand} {ats : Array TypeId} (ho : o.op = .call { callee := .value (.func f), args := xs, argTypes := ats }) : execOp a.eval o = callFunc f (#[] ++ xs.map a.eval ++ #[]) := by
  obtain ⟨dst, op, ty, pos, after, guard⟩ := o
  simp only at ho
  subst ho
  rfl
/-- A call of a named function, as a step of a region that draws its order. -/
theorem step_call {P : Program} {w : World} {ops : Array Oper} {o : Oper} {a : Act} {K : Act → World → Prop} {Q : Exit → Act → World → Prop} {E : Prop} (hgd : Region.wanted o (yielded ops a.tmps) = true) (f : FuncId) (fn : Func) (xs : Array Operand) (ats : Array TypeId)
    (ho : o.op = .call { callee := .value (.func f), args := xs, argTypes := ats }) (hf : P.funcs[f]? = some fn) (hname : (fn.name == "runtime.NumGoroutine") = false) (hbody : fn.body.isNone = false) (args : Array Value) (hx : xs.map a.eval = args)
    (R : Ending → World → Prop) (hc : Calls P f args w R) (h : ∀ e w', R e w' → ∃ v, e = .returned v ∧ K (a.put o.dst v) w') :
    if Region.wanted o (yielded ops a.tmps) = true then Oper.wp P o a w K Q else E := by
  rw [if_pos hgd]
  unfold Oper.wp
  rw [execOp_fn ho]
  have hr : (callFunc f (#[] ++ xs.map a.eval ++ #[])).run P w = .ok (.enter f args) w := by
    have h1 : fn.name ≠ "runtime.NumGoroutine" := by simpa using hname
    have h2 : fn.body ≠ none := by intro e; rw [e] at hbody; cases hbody
    simp [callFunc, hf, h1, h2, hx, run_program]
  rw [hr, Oper.upon_enter]
  refine hc.mono fun e w' hR => ?_
  obtain ⟨v, rfl, hk⟩ := h e w' hR
  exact hk

/-- append(s, b...) behind at least one byte, of any bytes. -/
theorem wpList_append_bytes {ops : Array Oper} {rest : List Oper} {o : Oper} {a : Act} {w : World} {Q : Exit → Act → World → Prop} (hgd : o.guard = none) (s x : Operand)
    (ho : o.op = .call { callee := .builtin .append, args := #[s, x], argTypes := #[22, 22] }) (base g n c : Nat) (xs : List Value) (hs : a.eval s = .slice (some ⟨g, 0, none⟩) n c) (hown : w.ownsRow base 5 1 (.slice (some ⟨g, 0, none⟩) n c) n xs) (hnc : n ≤ c)
    (ao : Option Addr) (cap : Nat) (l : List UInt8) (hx : a.eval x = .slice ao l.length cap) (hsl : Sl encB 1 w (.slice ao l.length cap) l) (hbig : n + l.length ≤ 140737488355328) (hbase : base ≤ w.heap.size)
    (h : ∀ g' c' w', w'.ownsRow base 5 1 (.slice (some ⟨g', 0, none⟩) (n + l.length) c') (n + l.length) (xs ++ l.map byteV) → w.grownBy w' (Value.slice (some ⟨g, 0, none⟩) n c).ownBlock → wpList Try.prog ops Q rest (a.put o.dst (.slice (some ⟨g', 0, none⟩) (n + l.length) c')) w') : wpList Try.prog ops Q (o :: rest) a w := by
  obtain ⟨i0, hi0, hz0, hz1, hz2⟩ := info_parts size5
  by_cases hl : l = []
  · subst hl
    have hsrc : Src Try.prog i0.size 22 (.slice ao 0 cap) 0 [] w := by
      cases ao with
      | none => exact Src.ofNil w Try.underlying22 cap
      | some ad => exact Src.ofSlice w Try.underlying22 ad 0 cap [] (by simp) (by simp) (by simp)
    have hr := run_append_nothing w 22 22 o.type 5 i0 Try.underlying22 hi0 (some ⟨g, 0, none⟩) n c hnc (.slice ao 0 cap) hsrc
    have h' := h g c w (by simpa using hown) (World.grownBy.refl _ _)
    refine wpList_plain hgd fun K hK => ?_
    have hx' : a.eval x = .slice ao 0 cap := hx
    unfold Oper.wp execOp
    simp only [ho, resolve, invoke, builtin, Sem.run_bind, Sem.run_pure, Result.andThen_ok, List.map_toArray, List.map_cons, List.map_nil, hs, hx', hr]
    exact hK _ _ h'
  · have hlp : 0 < l.length := List.length_pos_iff.2 hl
    obtain ⟨b, off, rfl, hbl, _⟩ := byte_at hsl hlp
    exact wpList_append_lies _ hgd s x 22 ho base 5 i0 (.int .u8 0) 1 1 Try.underlying22 hi0 hz0 hz1 hz2 rfl (by decide) _ n xs hs hown ⟨b, off, none⟩ l.length cap (l.map byteV) hx (by simp) (sl_news hsl (Below.refl _ _)) (bytes_ones _) hlp (by unfold maxLen; omega) (by omega) hbase _ rfl fun g' c' w' h2 h3 _ _ => h g' c' w' h2 h3

set_option maxRecDepth 20000 in
set_option maxHeartbeats 4000000 in
theorem turns_any (w : World) (n : Int) (h0 : -9223372036854775808 ≤ n) (h1 : n ≤ 9223372036854775807) (l : List UInt8) (ao : Option Addr) (cap : Nat) (hs : Sl encB 1 w (.slice ao l.length cap) l) (hcap : l.length ≤ cap) (hbig : l.length ≤ 140737488351232) :
    Calls Try.prog 3 #[.int .i64 n, .slice ao l.length cap] w fun e w' => e = .returned (.bool true) ∧ Below w.heap.size w w' := by
  obtain ⟨i0, hi0, hz0, hz1, hz2⟩ := info_parts size5
  have HS := hide hs
  clear hs
  have HB := hide (get_back n h0 h1)
  have HL := hide (get_less n h0 h1)
  have HN := hide (num_any n h0 h1)
  have hW1 := uvarint_pos (zigzag n)
  have hW2 := uvarint_length64 (zigzag_lt h0 h1)
  generalize hWe : uvarint (zigzag n) = W at HB HL HN hW1 hW2
  clear hWe
  go_enter Try.func3, Try.ntmps3
  go_wp2_with fail
  refine (alive_any w).mono ?_
  rintro e w1 ⟨rfl, hb1⟩
  have hs1 := hb1.size
  have HB1 := hide hb1
  clear hb1
  go_wp2_with fail
  refine (HN.out w1).mono ?_
  rintro e w2 ⟨oa, oc, rfl, hr2, hb2⟩
  obtain ⟨g, c, he, hgc⟩ := shape hr2 (by omega)
  obtain ⟨rfl, rfl⟩ : oa = some ⟨g, 0, none⟩ ∧ oc = c := by simpa using he
  clear he
  have hs2 := hb2.size
  have HB2 := hide (HB1.out.trans (hb2.mono hs1))
  have HR2 := hide hr2
  clear hb2 hr2 HB1
  have R0 := hide (row_empty w2 5 (Nat.le_refl w2.heap.size))
  have N0 := hide (row_news HR2.out ((Below.refl _ w2).alloc (Nat.le_refl _) (.cells #[] 5)))
  go_wp2_with (at_builtin; first
        | (refine wpList_append_lies _ rfl _ _ 22 rfl w2.heap.size 5 i0 (.int .u8 0) 1 1 Try.underlying22 hi0 hz0 hz1 hz2 rfl (by decide) (.slice (some ⟨w2.heap.size, 0, none⟩) 0 0) 0 [] rfl R0.out ⟨g, 0, none⟩ W.length oc (W.map byteV) rfl (by simp) N0.out (bytes_ones _) (by omega) (by unfold maxLen; omega) (by omega) (by simp) _ rfl ?_; intro g3 c3 w3 hr3 hg3 hat3 hlt3; have B3 := hide (below_grown R0.out ((Below.refl _ w2).alloc (Nat.le_refl _) (.cells #[] 5)) hg3 (by simp)); have C3 : 0 + W.length ≤ c3 := (by obtain ⟨g', c', he, hc⟩ := shape hr3 (by omega); have h3 := (Value.slice.inj he).2.2; omega))
        | (refine wpList_append_bytes rfl _ _ rfl w2.heap.size g3 (0 + W.length) c3 ([] ++ W.map byteV) (by first | rfl | simp [Act.eval]) (by simpa using hr3) C3 ao cap l rfl (HS.out.below (HB2.out.trans (B3.out.mono (by omega))) (Nat.le_refl _)) (by omega) (B3.out.size) ?_; intro g4 c4 w4 hr4 hg4))
  have B4 := hide (below_grown hr3 B3.out hg4 B3.out.size)
  have S4 : Hid (Sl encB 1 w4 (.slice (some ⟨g4, 0, none⟩) (W.length + l.length) c4) (W ++ l)) := by
    have h := hr4
    rw [Nat.zero_add, List.nil_append, ← List.map_append, ← List.length_append] at h
    rw [← List.length_append]
    exact sl_bytes h
  clear hr3 hg3 hat3 hlt3 hr4 hg4 B3 C3 R0 N0
  refine (get_is S4.out (HB.out l)).mono ?_
  rintro e w5 ⟨rfl, rfl⟩
  clear S4
  have hs4 := B4.out.size
  have S5 : Hid (Sl encB 1 w5 (.slice (some ⟨g, 0, none⟩) W.length oc) W) := (sl_bytes HR2.out).below B4.out (Nat.le_refl _)
  have BB := hide (HB2.out.trans (B4.out.mono (by omega)))
  have S6 := hide (HS.out.below BB.out (Nat.le_refl _))
  clear HS HR2 B4 HB2 HN HB
  go_wp2_with fail
  refine (get_is (sl_take S5.out (by omega) oc) HL.out).mono ?_
  rintro e w6 ⟨rfl, rfl⟩
  clear S5 HL hs2 hs4 hgc
  rcases get_cases l with ⟨er, her, hg⟩ | ⟨x, k, hg, hx0, hx1, hk1, hk2, hk3⟩
  · go_wp2_with fail
    refine (get_is S6.out hg).mono ?_
    rintro e w7 ⟨rfl, rfl⟩
    have hne : (er == 0) = false := by simpa using her
    clear S6 hg
    go_wp2_with fail
    go_ret
    exact ⟨rfl, BB.out⟩
  · go_wp2_with fail
    refine (get_is S6.out hg).mono ?_
    rintro e w7 ⟨rfl, rfl⟩
    clear hg
    have HNX := hide (num_any x hx0 hx1)
    rw [← hk3] at HNX
    have hkl : (l.take k).length = k := by rw [List.length_take]; omega
    obtain ⟨b, off, rfl, hbl, _⟩ := byte_at S6.out (show 0 < l.length by omega)
    have CV : Hid (∀ w', Below w7.heap.size w7 w' → (convert 22 9 (.slice (some ⟨b, off, none⟩) k cap)).run Try.prog w' = .ok (bytesOf (l.take k)) w') := by
      intro w' hb'
      refine conv_cells hkl.symm fun i hi => ?_
      obtain ⟨b', off', he, hb2, hc⟩ := byte_at (S6.out.below hb' (Nat.le_refl _)) (show i < l.length by omega)
      obtain ⟨rfl, rfl⟩ : b = b' ∧ off = off' := by simpa using he
      rw [hc, List.getElem_take]
    have CN : Hid (∀ w' base g c, w'.ownsRow base 5 1 (.slice (some ⟨g, 0, none⟩) k c) k ((l.take k).map byteV) → ∀ w'', Below w'.heap.size w' w'' → (convert 22 9 (.slice (some ⟨g, 0, none⟩) k c)).run Try.prog w'' = .ok (bytesOf (l.take k)) w'') := by
      intro w' base g c hr w'' hb
      refine conv_cells hkl.symm fun i hi => ?_
      have hlt := (hr.lt g (by simp [Value.ownBlock])).2
      rw [Nat.zero_add, hb.cell (p := ⟨g, _, none⟩) hlt, hr.cellAt i (by omega)]
      rw [List.getElem?_map, List.getElem?_eq_getElem (show i < (l.take k).length from hi)]
      rfl
    clear S6
    obtain ⟨S, hS⟩ : ∃ S : ByteArray, bytesOf (l.take k) = .string S := ⟨_, rfl⟩
    rw [hS] at CV CN
    clear hS
    have BD : Hid (Below w7.heap.size w7 w7.drew) := (Below.refl _ _).drew
    have hq1 : (0 : Int) ≤ (k : Int) := by omega
    have hq2 : (k : Int) ≤ (cap : Int) := by omega
    have hd1 : decide ((1 : Int) ≤ (k : Int)) = true := decide_eq_true (by omega)
    have hd2 : decide ((k : Int) ≤ (l.length : Int)) = true := decide_eq_true (by omega)
    go_wp2_with fail
    refine wp_region_held_drew (S := fun w' => (convert 22 9 (.slice (some ⟨b, off, none⟩) k cap)).run Try.prog w' = .ok (.string S) w') (by kernel_rfl) ?_ (fun hHeld => ?_)
    · exact CV.out _ BD.out
    refine wpAnyH_take (i := 0) (oi := { dst := some 67, op := Op.move (Operand.tmp 7), type := 3, pos := "law.go:47", after := #[], guard := none }) (v := ?v0) rfl (by kernel_rfl) (by kernel_rfl) (by kernel_rfl) (fun _ _ _ h => h) (Or.inl ⟨by rfl, ?hy0⟩) (by assumption) ?rest0
    case hy0 => (intro w hSw; (try dsimp only at hSw); go_simp; try with_reducible rfl)
    try simp only [Act.put, List.setIfInBounds_toArray, List.set_cons_zero, List.set_cons_succ]
    refine wpAnyH_take (i := 1) (oi := { dst := some 68, op := Op.binOp BinOp.geq 3 (Operand.tmp 67) (Operand.const (Value.int IntKind.i64 1)) 3, type := 4, pos := "law.go:47", after := #[{ on := 0, ground := Ground.data }], guard := none }) (v := ?v1) rfl (by kernel_rfl) (by kernel_rfl) (by kernel_rfl) (fun _ _ _ h => h) (Or.inl ⟨by rfl, ?hy1⟩) (by assumption) ?rest1
    case hy1 => (intro w hSw; (try dsimp only at hSw); go_simp; try with_reducible rfl)
    try simp only [Act.put, List.setIfInBounds_toArray, List.set_cons_zero, List.set_cons_succ]
    refine wpAnyH_take (i := 2) (oi := { dst := some 69, op := Op.move (Operand.tmp 68), type := 4, pos := "law.go:47", after := #[{ on := 1, ground := Ground.data }], guard := none }) (v := ?v2) rfl (by kernel_rfl) (by kernel_rfl) (by kernel_rfl) (fun _ _ _ h => h) (Or.inl ⟨by rfl, ?hy2⟩) (by assumption) ?rest2
    case hy2 => (intro w hSw; (try dsimp only at hSw); go_simp; try with_reducible rfl)
    try simp only [Act.put, List.setIfInBounds_toArray, List.set_cons_zero, List.set_cons_succ]
    refine wpAnyH_take (i := 3) (oi := { dst := some 70, op := Op.move (Operand.tmp 7), type := 3, pos := "law.go:47", after := #[{ on := 2, ground := Ground.guard }], guard := some (2, true) }) (v := ?v3) rfl (by kernel_rfl) (by kernel_rfl) (by kernel_rfl) (fun _ _ _ h => h) (Or.inl ⟨by rfl, ?hy3⟩) (by assumption) ?rest3
    case hy3 => (intro w hSw; (try dsimp only at hSw); go_simp; try with_reducible rfl)
    try simp only [Act.put, List.setIfInBounds_toArray, List.set_cons_zero, List.set_cons_succ]
    refine wpAnyH_take (i := 4) (oi := { dst := some 71, op := Op.move (Operand.tmp 1), type := 22, pos := "law.go:47", after := #[{ on := 2, ground := Ground.guard }], guard := some (2, true) }) (v := ?v4) rfl (by kernel_rfl) (by kernel_rfl) (by kernel_rfl) (fun _ _ _ h => h) (Or.inl ⟨by rfl, ?hy4⟩) (by assumption) ?rest4
    case hy4 => (intro w hSw; (try dsimp only at hSw); go_simp; try with_reducible rfl)
    try simp only [Act.put, List.setIfInBounds_toArray, List.set_cons_zero, List.set_cons_succ]
    refine wpAnyH_take (i := 5) (oi := { dst := some 72, op := Op.call { callee := Callee.builtin Builtin.len, args := #[Operand.tmp 71], argTypes := #[22] }, type := 3, pos := "law.go:47", after := #[{ on := 4, ground := Ground.data }, { on := 2, ground := Ground.guard }], guard := some (2, true) }) (v := ?v5) rfl (by kernel_rfl) (by kernel_rfl) (by kernel_rfl) (fun _ _ _ h => h) (Or.inl ⟨by rfl, ?hy5⟩) (by assumption) ?rest5
    case hy5 => (intro w hSw; (try dsimp only at hSw); go_simp; try with_reducible rfl)
    try simp only [Act.put, List.setIfInBounds_toArray, List.set_cons_zero, List.set_cons_succ]
    refine wpAnyH_take (i := 6) (oi := { dst := some 73, op := Op.binOp BinOp.leq 3 (Operand.tmp 70) (Operand.tmp 72) 3, type := 4, pos := "law.go:47", after := #[{ on := 3, ground := Ground.data }, { on := 5, ground := Ground.data }, { on := 2, ground := Ground.guard }], guard := some (2, true) }) (v := ?v6) rfl (by kernel_rfl) (by kernel_rfl) (by kernel_rfl) (fun _ _ _ h => h) (Or.inl ⟨by rfl, ?hy6⟩) (by assumption) ?rest6
    case hy6 => (intro w hSw; (try dsimp only at hSw); go_simp; try with_reducible rfl)
    try simp only [Act.put, List.setIfInBounds_toArray, List.set_cons_zero, List.set_cons_succ]
    refine wpAnyH_take (i := 7) (oi := { dst := some 74, op := Op.pick (Operand.tmp 69) (Operand.tmp 73) (Operand.const (Value.bool false)), type := 4, pos := "law.go:47", after := #[{ on := 2, ground := Ground.data }, { on := 6, ground := Ground.data }], guard := none }) (v := ?v7) rfl (by kernel_rfl) (by kernel_rfl) (by kernel_rfl) (fun _ _ _ h => h) (Or.inl ⟨by rfl, ?hy7⟩) (by assumption) ?rest7
    case hy7 => (intro w hSw; (try dsimp only at hSw); go_simp; try with_reducible rfl)
    try simp only [Act.put, List.setIfInBounds_toArray, List.set_cons_zero, List.set_cons_succ]
    refine wpAnyH_take (i := 8) (oi := { dst := some 75, op := Op.move (Operand.tmp 74), type := 4, pos := "law.go:47", after := #[{ on := 7, ground := Ground.data }, { on := 2, ground := Ground.chain }], guard := none }) (v := ?v8) rfl (by kernel_rfl) (by kernel_rfl) (by kernel_rfl) (fun _ _ _ h => h) (Or.inl ⟨by rfl, ?hy8⟩) (by assumption) ?rest8
    case hy8 => (intro w hSw; (try dsimp only at hSw); go_simp; try with_reducible rfl)
    try simp only [Act.put, List.setIfInBounds_toArray, List.set_cons_zero, List.set_cons_succ]
    refine wpAnyH_take (i := 9) (oi := { dst := some 76, op := Op.move (Operand.tmp 6), type := 3, pos := "law.go:47", after := #[{ on := 8, ground := Ground.guard }], guard := some (8, true) }) (v := ?v9) rfl (by kernel_rfl) (by kernel_rfl) (by kernel_rfl) (fun _ _ _ h => h) (Or.inl ⟨by rfl, ?hy9⟩) (by assumption) ?rest9
    case hy9 => (intro w hSw; (try dsimp only at hSw); go_simp; try with_reducible rfl)
    try simp only [Act.put, List.setIfInBounds_toArray, List.set_cons_zero, List.set_cons_succ]
    refine wpAnyH_take (i := 12) (oi := { dst := some 79, op := Op.move (Operand.tmp 1), type := 22, pos := "law.go:47", after := #[{ on := 8, ground := Ground.guard }], guard := some (8, true) }) (v := ?v12) rfl (by kernel_rfl) (by kernel_rfl) (by kernel_rfl) (fun _ _ _ h => h) (Or.inl ⟨by rfl, ?hy12⟩) (by assumption) ?rest12
    case hy12 => (intro w hSw; (try dsimp only at hSw); go_simp; try with_reducible rfl)
    try simp only [Act.put, List.setIfInBounds_toArray, List.set_cons_zero, List.set_cons_succ]
    refine wpAnyH_take (i := 13) (oi := { dst := some 80, op := Op.move (Operand.tmp 7), type := 3, pos := "law.go:47", after := #[{ on := 8, ground := Ground.guard }], guard := some (8, true) }) (v := ?v13) rfl (by kernel_rfl) (by kernel_rfl) (by kernel_rfl) (fun _ _ _ h => h) (Or.inl ⟨by rfl, ?hy13⟩) (by assumption) ?rest13
    case hy13 => (intro w hSw; (try dsimp only at hSw); go_simp; try with_reducible rfl)
    try simp only [Act.put, List.setIfInBounds_toArray, List.set_cons_zero, List.set_cons_succ]
    refine wpAnyH_take (i := 14) (oi := { dst := some 81, op := Op.slice 22 (Operand.tmp 79) none (some (Operand.tmp 80)) none, type := 22, pos := "law.go:47", after := #[{ on := 12, ground := Ground.data }, { on := 13, ground := Ground.data }, { on := 8, ground := Ground.guard }], guard := some (8, true) }) (v := ?v14) rfl (by kernel_rfl) (by kernel_rfl) (by kernel_rfl) (fun _ _ _ h => h) (Or.inl ⟨by rfl, ?hy14⟩) (by assumption) ?rest14
    case hy14 => (intro w hSw; (try dsimp only at hSw); go_simp; try with_reducible rfl)
    try simp only [Act.put, List.setIfInBounds_toArray, List.set_cons_zero, List.set_cons_succ]
    refine wpAnyH_take (i := 15) (oi := { dst := some 82, op := Op.convert 22 9 (Operand.tmp 81), type := 9, pos := "law.go:47", after := #[{ on := 14, ground := Ground.data }, { on := 8, ground := Ground.guard }], guard := some (8, true) }) (v := ?v15) rfl (by kernel_rfl) (by kernel_rfl) (by kernel_rfl) (fun _ _ _ h => h) (Or.inl ⟨by rfl, ?hy15⟩) (by assumption) ?rest15
    case hy15 => (intro w hSw; (try dsimp only at hSw); go_simp; try with_reducible rfl)
    try simp only [Act.put, List.setIfInBounds_toArray, List.set_cons_zero, List.set_cons_succ]
    refine wpAnyH_ready (rs := [10]) (by kernel_rfl) (by simp) ?_
    refine AllReadyH.cons (o := { dst := some 77, op := Op.call { callee := Callee.value (Operand.func 5), args := #[Operand.const (Value.slice none 0 0), Operand.tmp 76], argTypes := #[22, 3] }, type := 22, pos := "law.go:47", after := #[{ on := 9, ground := Ground.data }, { on := 8, ground := Ground.chain }, { on := 8, ground := Ground.guard }], guard := some (8, true) }) rfl (fun K hK => ?_) AllReadyH.nil
    refine step_call rfl 5 Try.f5 #[.const (.slice none 0 0), .tmp 76] #[22, 3] rfl Try.func5 (by kernel_rfl) (by kernel_rfl) #[.slice none 0 0, .int .i64 x] (by simp [Act.eval]) _ (HNX.out _) ?_
    rintro e w8 ⟨oa, oc8, rfl, hr8, hb8⟩
    have B8 : Hid (Below w7.heap.size w7 w8) := (BD.out.trans (hb8.mono (by simp)))
    rw [hkl] at hr8 ⊢
    obtain ⟨g8, c8, he8, hc8⟩ := shape hr8 (by omega)
    obtain ⟨rfl, rfl⟩ : oa = some ⟨g8, 0, none⟩ ∧ oc8 = c8 := by simpa using he8
    clear he8 hHeld
    have CN8 := CN.out w8 _ g8 oc8 hr8 w8 (Below.refl _ _)
    clear hb8 hr8
    refine ⟨_, rfl, hK.out _ _ (CV.out _ B8.out) (fun hHeld => ?_)⟩
    clear hK K
    try simp only [Act.put, List.setIfInBounds_toArray, List.set_cons_zero, List.set_cons_succ]
    refine wpAnyH_ready (rs := [11]) (by kernel_rfl) (by simp) ?_
    refine AllReadyH.cons (o := { dst := some 78, op := Op.convert 22 9 (Operand.tmp 77), type := 9, pos := "law.go:47", after := #[{ on := 10, ground := Ground.data }, { on := 8, ground := Ground.guard }], guard := some (8, true) }) rfl (fun K hK => ?_) AllReadyH.nil
    go_simp
    refine hK.out _ _ (CV.out _ B8.out) (fun hHeld2 => ?_)
    clear hK K hHeld
    try simp only [Act.put, List.setIfInBounds_toArray, List.set_cons_zero, List.set_cons_succ]
    refine wpAnyH_take (i := 16) (oi := { dst := some 83, op := Op.binOp BinOp.eql 9 (Operand.tmp 78) (Operand.tmp 82) 9, type := 4, pos := "law.go:47", after := #[{ on := 11, ground := Ground.data }, { on := 15, ground := Ground.data }, { on := 8, ground := Ground.guard }], guard := some (8, true) }) (v := ?v16) rfl (by kernel_rfl) (by kernel_rfl) (by kernel_rfl) (fun _ _ _ h => h) (Or.inl ⟨by rfl, ?hy16⟩) (by assumption) ?rest16
    case hy16 => (intro w hSw; (try dsimp only at hSw); go_simp; try with_reducible rfl)
    try simp only [Act.put, List.setIfInBounds_toArray, List.set_cons_zero, List.set_cons_succ]
    refine wpAnyH_take (i := 17) (oi := { dst := some 84, op := Op.pick (Operand.tmp 75) (Operand.tmp 83) (Operand.const (Value.bool false)), type := 4, pos := "law.go:47", after := #[{ on := 8, ground := Ground.data }, { on := 16, ground := Ground.data }], guard := none }) (v := ?v17) rfl (by kernel_rfl) (by kernel_rfl) (by kernel_rfl) (fun _ _ _ h => h) (Or.inl ⟨by rfl, ?hy17⟩) (by assumption) ?rest17
    case hy17 => (intro w hSw; (try dsimp only at hSw); go_simp; try with_reducible rfl)
    try simp only [Act.put, List.setIfInBounds_toArray, List.set_cons_zero, List.set_cons_succ]
    refine wpAnyH_take (i := 18) (oi := { dst := some 4, op := Op.assign (Operand.tmp 84), type := 4, pos := "law.go:47", after := #[{ on := 17, ground := Ground.data }, { on := 10, ground := Ground.chain }, { on := 0, ground := Ground.phase }, { on := 1, ground := Ground.phase }, { on := 2, ground := Ground.phase }, { on := 3, ground := Ground.phase }, { on := 4, ground := Ground.phase }, { on := 5, ground := Ground.phase }, { on := 6, ground := Ground.phase }, { on := 7, ground := Ground.phase }, { on := 8, ground := Ground.phase }, { on := 9, ground := Ground.phase }, { on := 10, ground := Ground.phase }, { on := 11, ground := Ground.phase }, { on := 12, ground := Ground.phase }, { on := 13, ground := Ground.phase }, { on := 14, ground := Ground.phase }, { on := 15, ground := Ground.phase }, { on := 16, ground := Ground.phase }, { on := 17, ground := Ground.phase }], guard := none }) (v := ?v18) rfl (by kernel_rfl) (by kernel_rfl) (by kernel_rfl) (fun _ _ _ h => h) (Or.inl ⟨by rfl, ?hy18⟩) (by assumption) ?rest18
    case hy18 => (intro w hSw; (try dsimp only at hSw); go_simp; try with_reducible rfl)
    try simp only [Act.put, List.setIfInBounds_toArray, List.set_cons_zero, List.set_cons_succ]
    refine wpAnyH_done (by kernel_rfl) ?_ _
    go_wp2
    go_ret
    exact ⟨rfl, BB.out.trans (B8.out.mono BB.out.size)⟩
end Go.Proofs.Ytcfjieebcgpapaa
