/- Num, behind nothing: what it answers of any number. -/
import Derived.Test.YtcfjieebcgpapaaGet
import Derived.Lib.AppendStr
import Derived.Lib.AppendIntMem
namespace Go.Proofs.Ytcfjieebcgpapaa
open Go.RowKit Go.Lib

theorem or128 (u : Nat) : bits .or .u8 (IntKind.u8.wrap (u : Int)) 128 = ((u % 128 + 128 : Nat) : Int) := by
  have h1 : IntKind.u8.wrap (u : Int) = ((u % 256 : Nat) : Int) := by rw [IntKind.wrap_u8]; omega
  have h := u8_or_nat (u % 256) 128 (by omega) (by decide)
  rw [show ((128 : Nat) : Int) = 128 from rfl] at h
  rw [h1, h, or128_nat ⟨u % 256, by omega⟩]
  simp only
  omega
theorem heap_new (w : World) (O : Obj) : (w.alloc O).heap[w.heap.size]? = some O := by unfold World.alloc; simp
theorem newB (w : World) (B : Nat) (hB : B = w.heap.size) (c : Int) (t : TypeId) : ∀ j u, [Value.int .u8 c][j]? = some u → (w.alloc (.cells #[.int .u8 c] t)).cell? ((⟨B, 0, none⟩ : Addr).add j) = some u := by
  subst hB
  exact World.news_of_block (cs := #[.int .u8 c]) (t := t) (fr := (0, 0)) (heap_new _ _)
theorem byte_one (c : Int) : ∀ u ∈ [Value.int .u8 c], u.oneCell' = true := by simp [Value.oneCell']

/-- A number's bytes in new memory. -/
def NumPost (bs : List UInt8) (w : World) : Ending → World → Prop :=
  fun e w' => ∃ oa oc, e = .returned (.slice oa bs.length oc) ∧ w'.ownsRow w.heap.size 5 1 (.slice oa bs.length oc) bs.length (bs.map byteV) ∧ Below w.heap.size w w'

theorem below_grown {w w1 w2 : World} {v : Value} {base n : Nat} {e : TypeId} {xs : List Value} (hr : w1.ownsRow base e 1 v n xs) (hb : Below base w w1) (hg : w1.grownBy w2 v.ownBlock) (hsz : base ≤ w1.heap.size) : Below base w w2 := by
  refine hb.trans ⟨hg.os, hg.tape, hg.output, hg.size, fun k hk => hg.block k (by omega) ?_⟩
  intro e
  have := (hr.lt k e.symm).1
  omega

set_option maxRecDepth 20000 in
set_option maxHeartbeats 1000000 in
theorem num_any (n : Int) (h0 : -9223372036854775808 ≤ n) (h1 : n ≤ 9223372036854775807) (w : World) :
    Calls Try.prog 5 #[.slice none 0 0, .int .i64 n] w (NumPost (uvarint (zigzag n)) w) := by
  obtain ⟨i0, hi0, hz0, hz1, hz2⟩ := info_parts size5
  have hzl := zigzag_lt h0 h1
  have hlen := uvarint_length64 hzl
  have HF := hide (fold_any n h0 h1 w)
  generalize hZ : zigzag n = Z at hzl hlen HF ⊢
  clear hZ h0 h1
  go_enter Try.func5, Try.ntmps5
  go_wp2_with (go_at_call 10; refine HF.out.mono ?_; rintro e w2 ⟨rfl, rfl⟩)
  clear HF
  go_loopw [0, 5] (fun vb vu wr => ∃ (acc : List UInt8) (u : Nat) (oa : Option Addr) (oc : Nat), vb = .slice oa acc.length oc ∧ vu = .int .u64 u ∧ u < 18446744073709551616 ∧ Hid (acc ++ uvarint u = uvarint Z) ∧ Hid (wr.ownsRow w2.heap.size 5 1 (.slice oa acc.length oc) acc.length (acc.map byteV) ∧ Below w2.heap.size w2 wr))
    (fun _ vu _ => (intOf vu).toNat)
  case atStart => exact ⟨[], Z, none, 0, rfl, rfl, hzl, rfl, World.ownsRow_nil _ _ _ _, Below.refl _ _⟩
  case round =>
    obtain ⟨acc, u, oa, oc, rfl, rfl, hu, hacc, hrow⟩ := hrel
    have hsz := hrow.out.2.size
    have hal : acc.length + (uvarint u).length ≤ 10 := by
      have := hlen
      rw [← hacc.out, List.length_append] at this
      exact this
    have HO := hide (or128 u)
    have HR : Hid ((wr.alloc (.cells #[.int .u8 (bits .or .u8 (IntKind.u8.wrap (u : Int)) 128)] 5)).ownsRow w2.heap.size 5 1 (.slice oa acc.length oc) acc.length (acc.map byteV)) := hrow.out.1.alloc _
    have HR2 : Hid ((wr.alloc (.cells #[.int .u8 (u : Int)] 5)).ownsRow w2.heap.size 5 1 (.slice oa acc.length oc) acc.length (acc.map byteV)) := hrow.out.1.alloc _
    by_cases hbig : 128 ≤ u
    · have hub := hide (uvarint_big hbig)
      have hal2 : (uvarint u).length = (uvarint (u / 128)).length + 1 := by rw [hub.out]; rfl
      go_wp2_with (at_builtin; go_must (refine wpList_append_lies _ rfl _ _ 22 rfl w2.heap.size 5 i0 (.int .u8 0) 1 1 Try.underlying22 hi0 hz0 hz1 hz2 rfl (by decide) (.slice oa acc.length oc) acc.length (acc.map byteV) rfl HR.out ⟨wr.heap.size, 0, none⟩ 1 1 [.int .u8 (bits .or .u8 (IntKind.u8.wrap (u : Int)) 128)] rfl rfl (newB _ _ rfl _ 5) (byte_one _) (by decide) (by unfold maxLen; omega) (by omega) (by simp; omega) _ rfl ?_); intro g cp w1 hr1 hg1 hat1 hlt1)
      go_roundw
      case rel =>
        refine ⟨acc ++ [(u % 128 + 128).toUInt8], u / 128, some ⟨g, 0, none⟩, cp, by simp, by go_num, by omega, ?_, ?_, ?_⟩
        · refine hide ?_
          rw [List.append_assoc, ← hacc.out, hub.out]
          rfl
        · have e : byteV (u % 128 + 128).toUInt8 = .int .u8 (bits .or .u8 (IntKind.u8.wrap (u : Int)) 128) := by
            rw [HO.out]; unfold byteV; rw [small_toNat (by omega)]
          rw [← e] at hr1
          rw [List.length_append, List.map_append]
          exact hr1
        · exact below_grown HR.out (hrow.out.2.alloc hsz _) hg1 (by simp; omega)
      case measure => simp [intOf]; omega
    · have hus := hide (uvarint_small (show u < 128 by omega))
      go_wp2_with (at_builtin; go_must (refine wpList_append_lies _ rfl _ _ 22 rfl w2.heap.size 5 i0 (.int .u8 0) 1 1 Try.underlying22 hi0 hz0 hz1 hz2 rfl (by decide) (.slice oa acc.length oc) acc.length (acc.map byteV) rfl HR2.out ⟨wr.heap.size, 0, none⟩ 1 1 [.int .u8 (u : Int)] rfl rfl (newB _ _ rfl _ 5) (byte_one _) (by decide) (by unfold maxLen; omega) (by omega) (by simp; omega) _ rfl ?_); intro g cp w1 hr1 hg1 hat1 hlt1)
      go_ret
      have e : uvarint Z = acc ++ [u.toUInt8] := by rw [← hacc.out, hus.out]
      rw [e]
      have e2 : byteV u.toUInt8 = .int .u8 (u : Int) := by
        unfold byteV; rw [small_toNat (by omega)]
      refine ⟨some ⟨g, 0, none⟩, cp, by simp, ?_, below_grown HR2.out (hrow.out.2.alloc hsz _) hg1 (by simp; omega)⟩
      rw [← e2] at hr1
      rw [List.length_append, List.map_append]
      exact hr1
end Go.Proofs.Ytcfjieebcgpapaa
