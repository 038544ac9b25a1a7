/-
  Numbers in ten digits, as octet writes them.
-/
import Derived.Test.YtlgfollajodpaaaDoorTab
namespace Go.Proofs.YtlgfollajodpaaaDoor
open Go.RowKit

theorem conv_bytes' {P : Program} {w : World} {t e d : TypeId} (T : IsBytes P t e) (hd : P.underlying d = some .string) {A : Option Addr} {l : List UInt8} (h : Bytes w A l) (c : Nat) {n : Nat} (hn : n = l.length) : (convert t d (.slice A n c)).run P w = .ok (.string ⟨l.toArray⟩) w := by
  subst hn
  exact conv_bytes T hd h c
/-- Signs at the end of a block of twenty cells. -/
def Tail (w : World) (g a : Nat) (T : List UInt8) : Prop :=
  ∃ cs : List Value, cs.length = 20 ∧ T.length + a = 20 ∧ Blk w g 92 cs ∧ ∀ j, j < T.length → cs[a + j]? = some (.int .u8 ((T.getD j 0).toNat : Int))
theorem Tail.cell {w : World} {g a : Nat} {T : List UInt8} (h : Tail w g (a + 1) T) : ∃ v, w.cell? ⟨g, a, none⟩ = some v := by
  obtain ⟨cs, h1, h2, hk, _⟩ := h
  exact ⟨cs[a]'(by omega), by rw [hk.cell a]; exact List.getElem?_eq_getElem _⟩
theorem Tail.free {w : World} {g a : Nat} {T : List UInt8} (h : Tail w g a T) (i : Nat) : w.frozen? ⟨g, i, none⟩ = false := by
  obtain ⟨cs, h1, h2, hk, _⟩ := h
  exact hk.free i
theorem Tail.put {w : World} {g a : Nat} {T : List UInt8} (h : Tail w g (a + 1) T) (c : UInt8) : Tail (w.setCell ⟨g, a, none⟩ (.int .u8 (c.toNat : Int))) g a (c :: T) := by
  obtain ⟨cs, h1, h2, hk, hc⟩ := h
  refine ⟨cs.set a (.int .u8 (c.toNat : Int)), by simpa using h1, by rw [List.length_cons]; omega, hk.set a _, fun j hj => ?_⟩
  rcases j with _ | j
  · rw [Nat.add_zero, List.getElem?_set_self (by omega)]
    rfl
  · rw [List.getElem?_set_ne (by omega)]
    have := hc j (by simpa using hj)
    rw [show a + (j + 1) = a + 1 + j by omega, this]
    simp
theorem Tail.len {w : World} {g a : Nat} {T : List UInt8} (h : Tail w g a T) : T.length + a = 20 := by obtain ⟨_, _, h, _⟩ := h; exact h
theorem Tail.bytes {w : World} {g a : Nat} {T : List UInt8} (h : Tail w g a T) : Bytes w (some ⟨g, a, none⟩) T := by
  obtain ⟨cs, h1, h2, hk, hc⟩ := h
  intro _
  exact ⟨g, a, rfl, hk.lt, fun j hj => by rw [hk.cell]; exact hc j hj⟩
theorem len20 : Tryd.prog.arrayLen 92 = 20 := by kernel_rfl
theorem arr20 : Tryd.prog.underlying 92 = some (.array (Tryd.prog.arrayLen 92) (Tryd.prog.elem 92)) := by kernel_rfl
theorem size20 (w : World) : (sizeOf (Tryd.prog.elem 92)).run Tryd.prog w = .ok 1 w := by kernel_rfl
theorem slice20 (g b : Nat) (hb : b < 20) (w : World) : (Instr.sliceAt 92 (.pointer (some ⟨g, 0, none⟩)) (some (.int .i64 (b : Int))) none none).run Tryd.prog w = .ok (.slice (some ⟨g, b, none⟩) (20 - b) (20 - b)) w := by
  rw [run_sliceAt_array_l w 92 _ arr20 .i64 (b : Int) (by omega) (by rw [len20]; omega), size20, len20]
  simp [slicedAt, Result.andThen, Addr.add_lit]
  omega
def DecLoop (w : World) (n0 : Nat) (v i : Value) (wr : World) : Prop :=
  Below w.heap.size w wr ∧ ∃ (n a : Nat) (T : List UInt8), v = .int .u64 (n : Int) ∧ i = .int .i64 (a : Int) ∧ Tail wr w.heap.size a T ∧ n ≤ n0 ∧ dec n0 = dec n ++ T
theorem tail_start (w : World) : Tail (w.alloc (.cells #[.int .u8 0, .int .u8 0, .int .u8 0, .int .u8 0, .int .u8 0, .int .u8 0, .int .u8 0, .int .u8 0, .int .u8 0, .int .u8 0, .int .u8 0, .int .u8 0, .int .u8 0, .int .u8 0, .int .u8 0, .int .u8 0, .int .u8 0, .int .u8 0, .int .u8 0, .int .u8 0] 92)) w.heap.size 20 [] :=
  ⟨[.int .u8 0, .int .u8 0, .int .u8 0, .int .u8 0, .int .u8 0, .int .u8 0, .int .u8 0, .int .u8 0, .int .u8 0, .int .u8 0, .int .u8 0, .int .u8 0, .int .u8 0, .int .u8 0, .int .u8 0, .int .u8 0, .int .u8 0, .int .u8 0, .int .u8 0, .int .u8 0], rfl, rfl, heap_alloc_new w _, fun j hj => by simp at hj⟩
set_option maxHeartbeats 1600000 in
theorem decimal_any (n0 : Nat) (w : World) (hn : n0 < 18446744073709551616) (ht : Tab w) :
    Calls Tryd.prog 55 #[.int .u64 (n0 : Int)] w fun e w' => e = .returned (.string ⟨(dec n0).toArray⟩) ∧ Below w.heap.size w w' := by
  have HT := Lib.hid ht; clear ht
  have hlen := dec_len 19 n0 (by omega)
  go_enter Tryd.func55, Tryd.ntmps55
  go_wp2_with fail
  go_loopw [0, 4] (fun v i wr => DecLoop w n0 v i wr) (fun _ i _ => (intOf i).toNat)
  case atStart => exact ⟨(Below.refl _ _).alloc (Nat.le_refl _) _, n0, 20, [], rfl, rfl, tail_start w, Nat.le_refl _, by simp⟩
  case round =>
    obtain ⟨hbr, n, a, T, rfl, rfl, htl, hnn, hd⟩ := hrel
    have hl1 := dec_ne n
    have hl2 : (dec n0).length = (dec n).length + T.length := by rw [hd, List.length_append]
    have hl3 : T.length + a = 20 := by obtain ⟨_, _, h, _⟩ := htl; exact h
    obtain ⟨b, rfl⟩ : ∃ b, a = b + 1 := ⟨a - 1, by omega⟩
    have hb : b < 20 := by omega
    clear hl1 hl2 hl3
    obtain ⟨v0, hv0⟩ := htl.cell
    have hf0 := htl.free b
    have d1 : wr.cell? ⟨0, n % 10, none⟩ = some (.int .u8 ((dg (n % 10)).toNat : Int)) := (HT.out.below hbr HT.out.lt).cell (by omega)
    have HD := Lib.hid hd; have HL := Lib.hid (htl.put (dg (n % 10))); have HB := Lib.hid (hbr.setCell (p := ⟨w.heap.size, b, none⟩) (Nat.le_refl _) (.int .u8 ((dg (n % 10)).toNat : Int)))
    clear hd htl
    have e1 : ((n : Int) % 10).toNat = n % 10 := by omega
    have hn2 : n < 18446744073709551616 := by omega
    by_cases h10 : n < 10
    · have hz : ((n : Int) / 10 == 0) = true := by simp; omega
      have kc := conv_bytes' (d := 9) isBytes Tryd.underlying9 HL.out.bytes (20 - b) (n := 20 - b) (by have := HL.out.len; omega)
      have ks := slice20 w.heap.size b hb (wr.setCell ⟨w.heap.size, b, none⟩ (.int .u8 ((dg (n % 10)).toNat : Int)))
      have hv : dec n0 = dg (n % 10) :: T := by
        rw [HD.out, dec_small h10, Nat.mod_eq_of_lt h10]
        rfl
      have HV := Lib.hid hv; clear hv
      go_wp2
      go_ret
      exact ⟨by rw [HV.out]; rfl, HB.out⟩
    · have hz : ((n : Int) / 10 == 0) = false := by simp; omega
      go_wp2
      go_roundw
      case rel => exact ⟨HB.out, n / 10, b, _, by go_num, rfl, HL.out, by omega, by rw [HD.out, dec_step h10, List.append_assoc]; rfl⟩
      case measure => simp [intOf]
/-- A number in digits, below 0 with a sign. -/
def textL (n : Int) : List UInt8 := if n < 0 then 45 :: dec n.natAbs else dec n.natAbs
theorem ba_append (l m : List UInt8) : (⟨l.toArray⟩ : ByteArray) ++ ⟨m.toArray⟩ = ⟨(l ++ m).toArray⟩ := by
  apply ByteArray.ext
  simp [ByteArray.data_append]
theorem textL_pos (a : Nat) : textL (a : Int) = dec a := by
  unfold textL
  rw [if_neg (by omega)]
  simp
theorem textL_neg (a : Nat) (h : 0 < a) : textL (-(a : Int)) = 45 :: dec a := by
  unfold textL
  rw [if_pos (by omega)]
  simp
theorem neg_wrap (a : Nat) (h0 : 0 < a) (h1 : a ≤ 9223372036854775808) : IntKind.u64.wrap (-IntKind.u64.wrap (-(a : Int))) = (a : Int) := by
  simp only [IntKind.wrap, IntKind.bits, IntKind.signed]
  simp
  omega
set_option maxHeartbeats 400000 in
theorem Text_any (n : Int) (w : World) (h0 : -9223372036854775808 ≤ n) (h1 : n ≤ 9223372036854775807) (ht : Tab w) :
    Calls Tryd.prog 42 #[.int .i64 n] w fun e w' => e = .returned (.string ⟨(textL n).toArray⟩) ∧ Below w.heap.size w w' := by
  by_cases hn : n < 0
  · obtain ⟨a, rfl⟩ : ∃ a : Nat, n = -(a : Int) := ⟨n.natAbs, by omega⟩
    have h41 := Lib.hid (decimal_any a w (by omega) ht)
    have e1 := Lib.hid (textL_neg a (by omega))
    have hsz : ¬ 9223372036854775807 < 1 + (dec a).length := by have := dec_len 19 a (by omega); omega
    clear ht
    go_enter Tryd.func42, Tryd.ntmps42
    go_wp2_with fail
    rw [neg_wrap a (by omega) (by omega)]
    refine h41.out.mono ?_
    rintro e w1 ⟨rfl, hb⟩
    have HB := Lib.hid hb; clear hb
    go_wp2_with fail
    go_ret
    exact ⟨(congrArg (fun s => Ending.returned (.string s)) (ba_append [45] (dec a))).trans (by rw [e1.out]; rfl), HB.out⟩
  · obtain ⟨a, rfl⟩ : ∃ a : Nat, n = (a : Int) := ⟨n.natAbs, by omega⟩
    have h41 := Lib.hid (decimal_any a w (by omega) ht)
    have e1 := Lib.hid (textL_pos a)
    clear ht
    go_enter Tryd.func42, Tryd.ntmps42
    go_wp2_with fail
    refine h41.out.mono ?_
    rintro e w1 ⟨rfl, hb⟩
    have HB := Lib.hid hb; clear hb
    go_wp2_with fail
    go_ret
    exact ⟨by rw [e1.out]; rfl, HB.out⟩
end Go.Proofs.YtlgfollajodpaaaDoor
