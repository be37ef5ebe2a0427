/- The closed fact: what wire answers of some bytes and texts. -/
import Derived.Test.YtcfjieebcgpapaaNum
namespace Go.Proofs.Ytcfjieebcgpapaa
open Go.RowKit Go.Lib

section
variable {P : Program} (w : World)
/-- append of a string's bytes, and where the slice lies then. -/
theorem run_append_str (base : Nat) (t u ty e : TypeId) (i : TypeInfo) (ht : P.underlying t = some (.slice e)) (hu : P.underlying u = some .string) (hi : P.info? e = some i) (hz : i.zero = some (.int .u8 0))
    (hsize : i.size = 1) (hby : i.bytes = 1) (v : Value) (n : Nat) (xs : List Value) (hown : w.ownsRow base e 1 v n xs) (s : ByteArray)
    (h63 : n + s.size ≤ maxLen) (hbytes : n + s.size ≤ 140737488355328) (hbase : base ≤ w.heap.size) :
    ∃ a c w', (Builtin.append_ #[t, u] ty #[v, .string s]).run P w = .ok (.slice a (n + s.size) c) w' ∧ w'.ownsRow base e 1 (.slice a (n + s.size) c) (n + s.size) (xs ++ Lib.strCells s) ∧ w.grownBy w' v.ownBlock ∧
      (∀ k, (Value.slice a (n + s.size) c).ownBlock = some k → v.ownBlock = some k ∨ k = w.heap.size) := by
  obtain ⟨v', w', hr, h2, h3, h4⟩ := Lib.run_append_own_string (P := P) w base t u ty e i ht hu hi hz hsize hby v n xs hown s h63 hbytes hbase
  have hsm : n + s.size ≤ 9223372036854775807 := by simp only [maxLen] at h63; omega
  have hxl : xs.length = n := by simpa using hown.1
  obtain ⟨a, c, rfl⟩ : ∃ a c, v' = .slice a (n + s.size) c := by
    rcases h2.2 with ⟨rfl, h0⟩ | ⟨g, cap, _, rfl, _⟩
    · exact ⟨none, 0, by rw [h0]⟩
    · exact ⟨_, _, rfl⟩
  refine ⟨a, c, w', hr, h2, h3, fun k hk => ?_⟩
  rcases hown.2 with ⟨rfl, rfl⟩ | ⟨g, cap, cur, rfl, hbg, hg, hnc, hcm, hcs, htake⟩
  · by_cases hm : s.size = 0
    · have h5 := h4.2 ⟨rfl, hm⟩
      rw [h5] at hk
      simp [Value.ownBlock] at hk
    · have hr2 := run_append_nil_string (P := P) w t u ty e i (.int .u8 0) ht hu hi hz s (by omega) (by omega) (by rw [hby]; omega)
      rw [hr] at hr2
      injection hr2 with h6 _
      rw [h6] at hk
      right
      simpa [Value.ownBlock, eq_comm] using hk
  · by_cases hroom : n + s.size ≤ cap
    · have hcs' : cur.size = cap := by simpa using hcs
      have hr2 := Lib.run_append_room_string (P := P) w t u ty e i ht hu hi hsize g n cap cur hg s hroom (by omega)
      rw [hr] at hr2
      injection hr2 with h6 _
      rw [h6] at hk
      left
      simpa [Value.ownBlock] using hk
    · have holds : ∀ j u, xs[j]? = some u → w.cell? ((⟨g, 0, none⟩ : Addr).add j) = some u := hown.cells (g := g) rfl
      have hr2 := Lib.run_append_grow_string (P := P) w t u ty e i (.int .u8 0) ht hu hi hz ⟨g, 0, none⟩ n cap xs (by rw [hsize]; simpa using hxl) holds s (by omega) (by omega) (by rw [hby]; exact growslice_fits (by omega) (by omega))
      rw [hr] at hr2
      injection hr2 with h6 _
      rw [h6] at hk
      right
      simpa [Value.ownBlock, eq_comm] using hk

theorem wp_append_str {o : Oper} {a : Act} {K : Act → World → Prop} {Q : Exit → Act → World → Prop} (sl x : Operand) (t u : TypeId)
    (ho : o.op = .call { callee := .builtin .append, args := #[sl, x], argTypes := #[t, u] })
    (base : Nat) (e : TypeId) (i : TypeInfo) (ht : P.underlying t = some (.slice e)) (hu : P.underlying u = some .string) (hi : P.info? e = some i) (hz : i.zero = some (.int .u8 0))
    (hsize : i.size = 1) (hby : i.bytes = 1)
    (v : Value) (n : Nat) (xs : List Value) (hs : a.eval sl = v) (hown : w.ownsRow base e 1 v n xs) (s : ByteArray) (hx : a.eval x = .string s)
    (h63 : n + s.size ≤ maxLen) (hbytes : n + s.size ≤ 140737488355328) (hbase : base ≤ w.heap.size)
    (h : ∀ b c w', w'.ownsRow base e 1 (.slice b (n + s.size) c) (n + s.size) (xs ++ Lib.strCells s) → w.grownBy w' v.ownBlock → (∀ k, (Value.slice b (n + s.size) c).ownBlock = some k → v.ownBlock = some k ∨ k = w.heap.size) → K (a.put o.dst (.slice b (n + s.size) c)) w') : o.wp P a w K Q := by
  obtain ⟨b, c, w', hr, h2, h3, h4⟩ := run_append_str (P := P) w base t u o.type e i ht hu hi hz hsize hby v n xs hown s h63 hbytes hbase
  unfold Oper.wp execOp
  simp only [ho, resolve, invoke, builtin, Sem.run_bind, Sem.run_pure, Result.andThen_ok, List.map_toArray, List.map_cons, List.map_nil, hs, hx, hr]
  exact h b c w' h2 h3 h4
theorem wpList_append_str {ops : Array Oper} {rest : List Oper} {o : Oper} {a : Act} {Q : Exit → Act → World → Prop} (hgd : o.guard = none) (sl x : Operand) (t u : TypeId)
    (ho : o.op = .call { callee := .builtin .append, args := #[sl, x], argTypes := #[t, u] })
    (base : Nat) (e : TypeId) (i : TypeInfo) (ht : P.underlying t = some (.slice e)) (hu : P.underlying u = some .string) (hi : P.info? e = some i) (hz : i.zero = some (.int .u8 0))
    (hsize : i.size = 1) (hby : i.bytes = 1)
    (v : Value) (n : Nat) (xs : List Value) (hs : a.eval sl = v) (hown : w.ownsRow base e 1 v n xs) (s : ByteArray) (hx : a.eval x = .string s)
    (h63 : n + s.size ≤ maxLen) (hbytes : n + s.size ≤ 140737488355328) (hbase : base ≤ w.heap.size)
    (h : ∀ b c w', w'.ownsRow base e 1 (.slice b (n + s.size) c) (n + s.size) (xs ++ Lib.strCells s) → w.grownBy w' v.ownBlock → (∀ k, (Value.slice b (n + s.size) c).ownBlock = some k → v.ownBlock = some k ∨ k = w.heap.size) → wpList P ops Q rest (a.put o.dst (.slice b (n + s.size) c)) w') : wpList P ops Q (o :: rest) a w :=
  wpList_plain hgd fun _ hK => wp_append_str w sl x t u ho base e i ht hu hi hz hsize hby v n xs hs hown s hx h63 hbytes hbase fun b c w' h2 h3 h4 => hK _ _ (h b c w' h2 h3 h4)
end

theorem flat_bytes (l : List UInt8) : l.flatMap encB = l.map byteV := by
  induction l with
  | nil => rfl
  | cons x r ih => rw [List.flatMap_cons, ih]; rfl
theorem sl_bytes {w : World} {base : Nat} {v : Value} {l : List UInt8} (h : w.ownsRow base 5 1 v l.length (l.map byteV)) : Sl encB 1 w v l :=
  sl_of_owns (enc := encB) (fun _ => rfl) (e := 5) (base := base) (by rw [flat_bytes]; exact h)

theorem sum_nil (w : World) : Calls Try.prog 9 #[.slice none 0 0] w fun e w' => e = .returned (.int .i64 2166136261) ∧ w' = w := by
  go_enter Try.func9, Try.ntmps9
  go_wp2
  go_loop [3, 8] (fun v3 v8 => v3 = .int .u32 2166136261 ∧ v8 = .int .i64 0) (fun _ _ => 0)
  case atStart => exact ⟨rfl, rfl⟩
  case round =>
    obtain ⟨rfl, rfl⟩ := hrel
    go_wp2
    go_ret
    exact ⟨rfl, rfl⟩

def abS : ByteArray := ⟨#[97, 98]⟩
theorem enc4 : uvarint (zigzag 2) = [4] := by rw [show zigzag 2 = 4 by decide, uvarint_small (by decide)]; rfl
theorem text_ab (w : World) : Calls Try.prog 8 #[.slice none 0 0, .string ⟨#[97, 98]⟩] w (NumPost [4, 97, 98] w) := by
  obtain ⟨i0, hi0, hz0, hz1, hz2⟩ := info_parts size5
  have HN := hide (num_any 2 (by decide) (by decide) w)
  rw [enc4] at HN
  go_enter Try.func8, Try.ntmps8
  go_wp2_with fail
  refine HN.out.mono ?_
  rintro e w1 ⟨oa, oc, rfl, hr, hb⟩
  have hsz := hb.size
  go_wp2_with (at_builtin; go_must (refine wpList_append_str _ rfl _ _ 22 9 rfl w.heap.size 5 i0 Try.underlying22 Try.underlying9 hi0 hz0 hz1 hz2 (.slice oa 1 oc) _ _ rfl hr ⟨#[97, 98]⟩ rfl (by decide) (by decide) hsz ?_); intro a1 c1 w2 hr2 hg2 hl2)
  go_ret
  exact ⟨a1, c1, rfl, hr2, below_grown hr hb hg2 hsz⟩

theorem get_150 (w : World) (v : Value) (hs : Sl encB 1 w v [172, 2, 9]) : Calls Try.prog 6 #[v] w fun e w' => e = .returned (.tuple #[.int .i64 150, .int .i64 2, .int .i64 0]) ∧ w' = w := get_any w v _ hs
theorem get_2 (w : World) (v : Value) (hs : Sl encB 1 w v [4, 97, 98]) : Calls Try.prog 6 #[v] w fun e w' => e = .returned (.tuple #[.int .i64 2, .int .i64 1, .int .i64 0]) ∧ w' = w := get_any w v _ hs

theorem bytes_back (l : List UInt8) : strOfNums (l.map fun b => (b.toNat : Int)) = ⟨l.toArray⟩ := by
  have : (l.map fun b => (b.toNat : Int)).map (fun n => UInt8.ofNat n.toNat) = l := by
    rw [List.map_map]
    conv => rhs; rw [← List.map_id l]
    refine List.map_congr_left fun b _ => ?_
    simp
  unfold strOfNums
  rw [this]
def bytesOf (l : List UInt8) : Value := .string ⟨l.toArray⟩
/-- string(b) of bytes that lie there. -/
theorem conv_cells {w : World} {b off n c : Nat} {l : List UInt8} (hn : n = l.length) (h : ∀ i (hi : i < l.length), w.cell? ⟨b, off + i, none⟩ = some (byteV l[i])) : (convert 22 9 (.slice (some ⟨b, off, none⟩) n c)).run Try.prog w = .ok (bytesOf l) w := by
  subst hn
  rw [run_convert_bytes_arg w 22 5 Try.underlying22 Try.underlying5 b off l.length c (l.map fun b => (b.toNat : Int)) (by simp) (fun i hi => ?_) 9 Try.underlying9, bytes_back]
  · rfl
  · rw [h i hi]; simp [List.getElem?_eq_getElem hi]
theorem conv_nil {w : World} : (convert 22 9 (.slice none 0 0)).run Try.prog w = .ok (bytesOf []) w := by
  rw [run_convert_bytes_nil w 22 5 Try.underlying22 Try.underlying5 _ _ 9 Try.underlying9]
  rfl

theorem gettext_ab (w : World) (base g cap : Nat) (hr : w.ownsRow base 5 1 (.slice (some ⟨g, 0, none⟩) 3 cap) 3 ([4, 97, 98].map byteV)) :
    Calls Try.prog 7 #[.slice (some ⟨g, 0, none⟩) 3 cap, .int .i64 5] w fun e w' => e = .returned (.tuple #[.string ⟨#[97, 98]⟩, .int .i64 3, .int .i64 0]) ∧ w' = w := by
  have HG := hide (get_2 w _ (sl_bytes hr))
  have hcap : 3 ≤ cap := by
    rcases hr.2 with ⟨h, _⟩ | ⟨g', c, cur, he, _, _, hn, _⟩
    · cases h
    · injection he with _ _ h3; subst h3; exact hn
  have c1 : w.cell? ⟨g, 1, none⟩ = some (byteV 97) := hr.cellAt 1 (by decide)
  have c2 : w.cell? ⟨g, 2, none⟩ = some (byteV 98) := hr.cellAt 2 (by decide)
  have hcv : ∀ c, (convert 22 9 (.slice (some ⟨g, 1, none⟩) 2 c)).run Try.prog w = .ok (bytesOf [97, 98]) w := fun c => conv_cells rfl (fun i hi => by
    match i, hi with
    | 0, _ => exact c1
    | 1, _ => exact c2)
  have hcv := hcv (cap - 1)
  clear hr c1 c2
  go_enter Try.func7, Try.ntmps7
  go_wp2_with fail
  refine HG.out.mono ?_
  rintro e w1 ⟨rfl, rfl⟩
  go_wp2_with fail
  all_goals go_ret3
  all_goals exact ⟨rfl, rfl⟩

theorem enc1 : uvarint (zigzag (-1)) = [1] := by rw [show zigzag (-1) = 1 by decide, uvarint_small (by decide)]; rfl
theorem shape {w : World} {base n : Nat} {v : Value} {xs : List Value} (h : w.ownsRow base 5 1 v n xs) (hn : 0 < n) : ∃ g c, v = .slice (some ⟨g, 0, none⟩) n c ∧ n ≤ c := by
  rcases h.2 with ⟨_, h0⟩ | ⟨g, c, cur, he, _, _, hc, _⟩
  · omega
  · exact ⟨g, c, he, hc⟩
set_option maxRecDepth 20000 in
theorem alive_any (w : World) : Calls Try.prog 4 #[] w fun e w' => e = .returned (.bool true) ∧ Below w.heap.size w w' := by
  have hr0 : (w.alloc (.cells #[.int .u8 172, .int .u8 2, .int .u8 9] 5)).ownsRow w.heap.size 5 1 (.slice (some ⟨w.heap.size, 0, none⟩) 3 3) 3 ([172, 2, 9].map byteV) :=
    ⟨rfl, .inr ⟨w.heap.size, 3, _, rfl, Nat.le_refl _, heap_new _ _, Nat.le_refl _, by unfold maxLen; decide, rfl, rfl⟩⟩
  have HG := hide (get_150 _ _ (sl_bytes hr0))
  clear hr0
  have HB : Hid (Below w.heap.size w (w.alloc (.cells #[.int .u8 172, .int .u8 2, .int .u8 9] 5))) := (Below.refl _ w).alloc (Nat.le_refl _) _
  go_enter Try.func4, Try.ntmps4
  go_wp2_with fail
  refine HG.out.mono ?_
  rintro e w1 ⟨rfl, rfl⟩
  clear HG
  generalize hw1 : w.alloc (.cells #[.int .u8 172, .int .u8 2, .int .u8 9] 5) = w1 at HB ⊢
  clear hw1
  have hs1 := HB.out.size
  go_wp2_with fail
  refine (text_ab w1).mono ?_
  rintro e w2 ⟨oa, oc, rfl, hr2, hb2⟩
  obtain ⟨g, c, he, hgc⟩ := shape hr2 (by decide)
  obtain ⟨rfl, rfl⟩ : oa = some ⟨g, 0, none⟩ ∧ oc = c := by simpa using he
  clear he
  have HGT := hide (gettext_ab w2 _ g oc hr2)
  have HB2 := hide (HB.out.trans (hb2.mono hs1))
  clear HB hb2 hr2
  go_wp2_with fail
  refine HGT.out.mono ?_
  rintro e w3 ⟨rfl, rfl⟩
  have HN := hide (num_any (-1) (by decide) (by decide) w3)
  rw [enc1] at HN
  go_wp2_with fail
  refine HN.out.mono ?_
  rintro e w4 ⟨oa, oc', rfl, hr4, hb4⟩
  have HB4 := hide (HB2.out.trans (hb4.mono (by have := HB2.out.size; omega)))
  clear HB2 hb4 hr4 HGT HN
  go_wp2_with fail
  refine (sum_nil w4).mono ?_
  rintro e w5 ⟨rfl, rfl⟩
  go_wp2_with fail
  all_goals go_ret
  all_goals exact ⟨rfl, HB4.out⟩
end Go.Proofs.Ytcfjieebcgpapaa
