/-
  octet's Unhex, and the document's Hex.
-/
import Derived.Test.YtjfbfboecpbgbaaDoorInt
import Derived.Test.YtjfbfboecpbgbaaDoorHexDec
namespace Go.Proofs.YtjfbfboecpbgbaaDoor
open Go.RowKit

def RetUnhex (w : World) (r : Option (List UInt8)) (e : Ending) (w' : World) : Prop :=
  ∃ A c, e = .returned (.tuple #[.slice A (r.getD []).length c, .bool r.isSome]) ∧ Bytes w' A (r.getD []) ∧ Below w.heap.size w w'

/-- A call in a quiet walk, by a contract that leaves the world as it is. -/
theorem still {P : Program} {f : FuncId} {args : Array Value} {w : World} {n : Nat} {v : Value} (h : Calls P f args (w.drewN n) fun e w' => e = .returned v ∧ w.drewN n = w') :
    Calls P f args (w.drewN n) fun e w' => e = .returned v ∧ ∃ m, w' = w.drewN m := h.mono fun _ _ ⟨he, hm⟩ => ⟨he, n, hm.symm⟩

theorem or_nat : ∀ d, d < 16 → ∀ e, e < 16 → bits .or .i64 ((d : Nat) * 16 : Int) ((e : Nat) : Int) = ((d * 16 + e : Nat) : Int) := by decide +kernel
theorem or_pair {D E : Int} (d0 : 0 ≤ D) (d1 : D < 16) (e0 : 0 ≤ E) (e1 : E < 16) : bits .or .i64 (D * 16) E = D * 16 + E := by
  obtain ⟨d, rfl⟩ := Int.eq_ofNat_of_zero_le d0
  obtain ⟨e, rfl⟩ := Int.eq_ofNat_of_zero_le e0
  rw [or_nat d (by omega) e (by omega)]
  omega
theorem pair_of {D E : Int} {a b : UInt8} (hD : D = digitOf a) (hE : E = digitOf b) (d0 : 0 ≤ D) (e0 : 0 ≤ E) : UInt8.ofNat (D * 16 + E).toNat = pairB a b ∧ isHex a ∧ isHex b := by
  subst hD; subst hE
  have h1 := (hex_range d0).1
  have h2 := (hex_range e0).1
  refine ⟨?_, d0, e0⟩
  unfold pairB
  congr 1
  omega

def UnhexRel (w : World) (l : List UInt8) (v i : Value) (wr : World) : Prop :=
  Below w.heap.size w wr ∧ ∃ (j : Nat) (out : List UInt8), j ≤ l.length ∧ i = .int .i64 (j : Int) ∧ 2 * out.length = j ∧ Own wr w.heap.size 5 v out ∧ unhexL l = (unhexL (l.drop j)).map (out ++ ·)

set_option maxRecDepth 100000 in
set_option maxHeartbeats 3200000 in
theorem Unhex_even (l : List UInt8) (w : World) (hl : l.length ≤ 1000000) (he : l.length % 2 = 0) (ht : Tab w) :
    Calls Tryd.prog 28 #[.string ⟨l.toArray⟩] w (RetUnhex w (unhexL l)) := by
  have HT := Lib.hid ht; clear ht
  obtain ⟨m, hm⟩ : ∃ m, l.length = 2 * m := ⟨l.length / 2, by omega⟩
  have HM := Lib.hid hm
  have hdm : (l.length : Int) / 2 = (m : Int) := by omega
  have hmd : ((l.length : Int) % 2 != 0) = false := by simp; omega
  have h00 := Lib.hid (show unhexL l = (unhexL (l.drop 0)).map (([] : List UInt8) ++ ·) by cases h : unhexL l <;> simp [h])
  clear he hm
  go_enter Tryd.func28, Tryd.ntmps28
  go_wp2_with (at_make; refine wpList_make_bytes isBytes rfl _ _ rfl w 0 (m : Nat) 0 m rfl (by first | rfl | simp) rfl (by first | rfl | simp) (by omega) (by omega) (Below.refl _ _) ?_; intro w1 hown1 _ hb1; have H1 := Lib.hid hown1; clear hown1)
  clear hdm hmd
  go_loopw [4, 5] (fun v i wr => UnhexRel w l v i wr) (fun _ i _ => l.length - (intOf i).toNat)
  case atStart => exact ⟨hb1, 0, [], by omega, rfl, rfl, H1.out, h00.out⟩
  case round =>
    clear hb1 H1 h00
    obtain ⟨hbr, j, out, hj, rfl, ho, hown, hR⟩ := hrel
    have HO := Lib.hid hown; have HR := Lib.hid hR; have HL := Lib.hid ho; clear hown hR
    by_cases hlt : j < l.length
    · have hlt1 : j + 1 < l.length := by have := HM.out; omega
      clear ho
      obtain ⟨D, hD⟩ : ∃ D, D = digitOf (l.getD j 0) := ⟨_, rfl⟩
      obtain ⟨E, hE⟩ : ∃ E, E = digitOf (l.getD (j + 1) 0) := ⟨_, rfl⟩
      have hT := HT.out.below hbr HT.out.lt
      have HTr := Lib.hid hT
      have hx0 : j < (⟨l.toArray⟩ : ByteArray).size := by simpa [ByteArray.size] using hlt
      have hx1 : j + 1 < (⟨l.toArray⟩ : ByteArray).size := by simpa [ByteArray.size] using hlt1
      have hD1 := digitOf_range (l.getD j 0)
      have hE1 := digitOf_range (l.getD (j + 1) 0)
      rw [← hD] at hD1; rw [← hE] at hE1
      have HD := Lib.hid hD; have HE := Lib.hid hE
      have i1 : (0 : Int) ≤ (j : Int) + 1 := by omega
      have i2 : (j : Int) + 1 < (l.length : Int) := by omega
      have i3 : ((j : Int) + 1).toNat = j + 1 := by omega
      have i4 : IntKind.i64.wrap ((j : Int) + 1) = (j : Int) + 1 := IntWalk.i64_in _ (by omega)
      clear hD hE hT
      by_cases hd : 0 ≤ D ∧ 0 ≤ E
      · obtain ⟨d0, e0⟩ := hd
        have d1 : D < 16 := by omega
        have e1 : E < 16 := by omega
        have hdd : decide (D < 0) = false := by simp; omega
        have hde : ¬ D < 0 := by omega
        have hee : ¬ E < 0 := by omega
        clear hD1 hE1
        go_wp2_with fail
        go_quiet ((go_at_call 40; exact still (digit_any _ _ (by exact HTr.out))))
        rw [ba_at l j hx0, ba_at l (j + 1) hx1, ← HD.out, ← HE.out]
        have hbits := or_pair d0 d1 e0 e1
        have hpb := Lib.hid (pair_of HD.out HE.out d0 e0)
        have hrs := Lib.hid (fun a b => unhexL_step hlt1 HR.out a b)
        clear i1 i2 i3 i4 hx0 hx1
        go_wp2_with (at_builtin; refine wpList_append_byte isBytes rfl (.tmp 37) (.tmp 43) rfl w _ _ rfl (wr.drewN _) _ rfl (HO.out.drewN _) rfl ?_ ?_ ?_ (below_drewN hbr _) ?_)
        · omega
        · omega
        · have := HL.out; omega
        · intro v' w' hown' _ hb'
          have hown2 := hown'
          rw [hpb.out.1] at hown2
          have H' := Lib.hid hown2; have HB' := Lib.hid hb'
          clear hown' hown2 hb' hbr hbits
          go_wp2
          go_roundw
          case rel => exact ⟨HB'.out, j + 2, out ++ [pairB (l.getD j 0) (l.getD (j + 1) 0)], by omega, by go_num, by simp; have := HL.out; omega, H'.out, hrs.out hpb.out.2.1 hpb.out.2.2⟩
          case measure => simp [intOf]; omega
      · have hbad := Lib.hid (unhexL_bad hlt1 HR.out (fun h => hd ⟨by rw [HD.out]; exact h.1, by rw [HE.out]; exact h.2⟩))
        by_cases d0 : 0 ≤ D
        · have e0 : E < 0 := by omega
          have hdd : decide (D < 0) = false := by simp; omega
          have hde : ¬ D < 0 := by omega
          clear hD1 hE1 hd
          go_wp2_with fail
          go_quiet ((go_at_call 40; exact still (digit_any _ _ (by exact HTr.out))))
          rw [ba_at l j hx0, ba_at l (j + 1) hx1, ← HD.out, ← HE.out]
          clear i1 i2 i3 i4 hx0 hx1
          go_wp2_with fail
          go_ret2
          exact ⟨none, 0, by rw [hbad.out]; rfl, by rw [hbad.out]; exact Bytes.nil _ _, below_drewN hbr _⟩
        · have d1 : D < 0 := by omega
          have hdd : decide (D < 0) = true := by simp; omega
          clear hD1 hE1 hd
          go_wp2_with fail
          go_quiet ((go_at_call 40; exact still (digit_any _ _ (by exact HTr.out))))
          rw [ba_at l j hx0, ba_at l (j + 1) hx1, ← HD.out, ← HE.out]
          clear i1 i2 i3 i4 hx0 hx1
          go_wp2_with fail
          go_ret2
          exact ⟨none, 0, by rw [hbad.out]; rfl, by rw [hbad.out]; exact Bytes.nil _ _, below_drewN hbr _⟩
    · obtain rfl : j = l.length := by omega
      have hR := HR.out
      rw [List.drop_length] at hR
      have hR2 : unhexL l = some out := by rw [hR]; simp [unhexL]
      obtain ⟨A, c, rfl, _, _, hA⟩ := HO.out.bytes'
      have HR2 := Lib.hid hR2; have HA := Lib.hid hA; have HB := Lib.hid hbr
      clear hR hR2 hA hbr ho
      go_wp2
      go_ret2
      exact ⟨A, c, by rw [HR2.out]; rfl, by rw [HR2.out]; exact HA.out, HB.out⟩

theorem Unhex_any (l : List UInt8) (w : World) (hl : l.length ≤ 1000000) (ht : Tab w) :
    Calls Tryd.prog 28 #[.string ⟨l.toArray⟩] w (RetUnhex w (unhexL l)) := by
  by_cases he : l.length % 2 = 0
  · exact Unhex_even l w hl he ht
  · have hn := Lib.hid (unhexL_odd l he)
    have hmd : ((l.length : Int) % 2 != 0) = true := by simp; omega
    clear ht he
    go_enter Tryd.func28, Tryd.ntmps28
    go_wp2_with fail
    go_ret2
    exact ⟨none, 0, by rw [hn.out]; rfl, by rw [hn.out]; exact Bytes.nil _ _, Below.refl _ _⟩

theorem hexL_take {l : List UInt8} {k x : Nat} (h : k < l.length) (hx : x = (l.getD k 0).toNat) : hexL (l.take (k + 1)) = hexL (l.take k) ++ [dg (x / 16)] ++ [dg (x % 16)] := by
  subst hx
  rw [take_snoc l k h, hexL_snoc]
  simp
theorem sixteen_cut (k : Nat) (hk : k < 16) : (ByteArray.mk #[48, 49, 50, 51, 52, 53, 54, 55, 56, 57, 97, 98, 99, 100, 101, 102]).extract k (k + 1) = ⟨[dg k].toArray⟩ := by
  rcases (show k = 0 ∨ k = 1 ∨ k = 2 ∨ k = 3 ∨ k = 4 ∨ k = 5 ∨ k = 6 ∨ k = 7 ∨ k = 8 ∨ k = 9 ∨ k = 10 ∨ k = 11 ∨ k = 12 ∨ k = 13 ∨ k = 14 ∨ k = 15 by omega) with rfl | rfl | rfl | rfl | rfl | rfl | rfl | rfl | rfl | rfl | rfl | rfl | rfl | rfl | rfl | rfl <;> rfl

set_option maxRecDepth 100000 in
set_option maxHeartbeats 1600000 in
theorem refHex_any (A : Option Addr) (n c : Nat) (l : List UInt8) (hn : n = l.length) (w : World) (hl : l.length ≤ 1000000) (h : Bytes w A l) :
    Calls Tryd.prog 30 #[.slice A n c] w fun e w' => e = .returned (.string ⟨(hexL l).toArray⟩) ∧ ∃ k, w' = w.drewN k := by
  subst hn
  have HB := Lib.hid h
  clear h
  go_enter Tryd.func30, Tryd.ntmps30
  go_wp2_with fail
  go_loopw [3, 4, 5, 6] (fun s i _ _ wr => ∃ k m : Nat, k ≤ l.length ∧ i = .int .i64 (k : Int) ∧ s = .string ⟨(hexL (l.take k)).toArray⟩ ∧ wr = w.drewN m) (fun _ i _ _ _ => l.length - (intOf i).toNat)
  case atStart => exact ⟨0, 0, Nat.zero_le _, rfl, rfl, rfl⟩
  case round =>
    obtain ⟨k, m, hk, rfl, rfl, rfl⟩ := hrel
    by_cases hlt : k < l.length
    · obtain ⟨b, off, rfl, _, hc0⟩ := HB.out.cell hlt
      obtain ⟨x, hx⟩ : ∃ x, x = (l.getD k 0).toNat := ⟨_, rfl⟩
      have hx1 : x < 256 := by rw [hx]; exact (l.getD k 0).toNat_lt
      have hc : (w.drewN m).cell? ⟨b, off + k, none⟩ = some (.int .u8 (x : Int)) := by rw [hx]; exact hc0
      have hs := Lib.hid (hexL_take hlt hx)
      have hlen := hexL_len (l.take k)
      have hlen2 : (hexL (l.take k)).length ≤ 2000000 := by rw [hlen]; simp; omega
      have k1 := sixteen_cut (x / 16) (by omega)
      have k2 := sixteen_cut (x % 16) (by omega)
      clear hx hc0 hlen
      have a1 : (0 : Int) ≤ (x : Int) / 16 := by omega
      have a3 : (x : Int) / 16 < 16 := by omega
      have a4 : ((x : Int) / 16).toNat = x / 16 := by omega
      have a5 : (0 : Int) ≤ (x : Int) % 16 := by omega
      have a6 : (x : Int) % 16 < 16 := by omega
      have a7 : ((x : Int) % 16).toNat = x % 16 := by omega
      have a8 : IntKind.i64.wrap ((x : Int) / 16 + 1) = (x : Int) / 16 + 1 := IntWalk.i64_in _ (by omega)
      have a9 : IntKind.i64.wrap ((x : Int) % 16 + 1) = (x : Int) % 16 + 1 := IntWalk.i64_in _ (by omega)
      have b1 : ((x : Int) / 16 + 1).toNat = x / 16 + 1 := by omega
      have b2 : ((x : Int) % 16 + 1).toNat = x % 16 + 1 := by omega
      go_wp2_with fail
      go_quiet (fail)
      clear a1 a3 a4 a5 a6 a7 a8 a9 b1 b2 k1 k2 hc
      go_wp2_with fail
      go_roundw
      case rel => exact ⟨k + 1, _, by omega, by go_num, by rw [hs.out, ← ba_append, ← ba_append], rfl⟩
      case measure => simp [intOf]; omega
    · obtain rfl : k = l.length := by omega
      go_wp2_with fail
      go_ret
      exact ⟨by rw [List.take_length]; rfl, m, rfl⟩

theorem extract_two {l : List UInt8} {j : Nat} (h : j + 1 < l.length) : (⟨l.toArray⟩ : ByteArray).extract j (j + 2) = ⟨[l.getD j 0, l.getD (j + 1) 0].toArray⟩ := by
  apply ByteArray.ext
  rw [ByteArray.data_extract]
  apply Array.ext'
  simp only [List.extract_toArray, List.extract_eq_take_drop]
  rw [drop_two h]
  simp

/-- 'append(out, c)' where the new block's number is spelled otherwise. -/
theorem append_byte_at {P : Program} {w : World} {ops : Array Oper} {rest : List Oper} {o : Oper} {a : Act} {Q : Exit → Act → World → Prop} {t e : TypeId} (T : IsBytes P t e) (hgd : o.guard = none) (s x : Operand) (ho : o.op = .call { callee := .builtin .append, args := #[s, x], argTypes := #[t, t] })
    (w0 : World) (v : Value) (l : List UInt8) (hs : a.eval s = v) (wr : World) (N : Int) (hw : w = wr.alloc (.cells #[.int .u8 N] e)) (hown : Own wr w0.heap.size e v l) (H : Nat) (hx : a.eval x = .slice (some ⟨H, 0, none⟩) 1 1) (hH : wr.heap.size = H)
    (h0 : 0 ≤ N) (h1 : N < 256) (hsz : l.length < 140737488355328) (hb : Below w0.heap.size w0 wr)
    (h : ∀ v' w', Own w' w0.heap.size e v' (l ++ [UInt8.ofNat N.toNat]) → wr.grownBy w' v.ownBlock → Below w0.heap.size w0 w' → wpList P ops Q rest (a.put o.dst v') w') : wpList P ops Q (o :: rest) a w := by
  subst hH
  exact wpList_append_byte T hgd s x ho w0 v l hs wr N hw hown hx h0 h1 hsz hb h
theorem pairLen {l out : List UInt8} {j : Nat} (ho : out.length ≤ j) (hlt : j + 1 < l.length) (hl : l.length ≤ 900000) (a b : UInt8) (n : Nat) : (out ++ pairUpto a b n).length < 140737488355328 := by
  have h1 : (pairUpto a b n).length ≤ 1 := by unfold pairUpto; split <;> simp
  rw [List.length_append]
  omega
theorem pairL_len (a b : UInt8) : (pairL a b).length ≤ 1 := by unfold pairL; split <;> simp

def OuterRel (w : World) (l : List UInt8) (v i : Value) (wr : World) : Prop :=
  Below w.heap.size w wr ∧ ∃ (j : Nat) (out : List UInt8), j ≤ l.length + 1 ∧ i = .int .i64 (j : Int) ∧ out.length ≤ j ∧ Own wr w.heap.size 5 v out ∧ scanL l = out ++ scanL (l.drop j)
def InnerRel (w : World) (l : List UInt8) (j : Nat) (out : List UInt8) (v k : Value) (wr : World) : Prop :=
  Below w.heap.size w wr ∧ ∃ n : Nat, n ≤ 256 ∧ k = .int .i64 (n : Int) ∧ Own wr w.heap.size 5 v (out ++ pairUpto (l.getD j 0) (l.getD (j + 1) 0) n)

set_option maxRecDepth 100000 in
set_option maxHeartbeats 3200000 in
theorem refUnhex_any (l : List UInt8) (w : World) (hl : l.length ≤ 900000) :
    Calls Tryd.prog 29 #[.string ⟨l.toArray⟩] w (RetUnhex w (unhexL l)) := by
  go_enter Tryd.func29, Tryd.ntmps29
  go_wp2_with fail
  go_loopw [4, 5, 6] (fun v i _ wr => OuterRel w l v i wr) (fun _ i _ _ => l.length - (intOf i).toNat)
  case atStart => exact ⟨Below.refl _ _, 0, [], by omega, rfl, by simp, Own.nil _ _ _, rfl⟩
  case round =>
    obtain ⟨hbr, j, out, hj, rfl, ho, hown, hR⟩ := hrel
    obtain ⟨wo, hwo⟩ : ∃ wo : World, wo = wr := ⟨_, rfl⟩
    have HO := Lib.hid hown; have HR := Lib.hid hR; have HB := Lib.hid hbr
    clear hown hR hbr
    subst hwo
    by_cases hlt : j + 1 < l.length
    · have hs0 := Lib.hid (pairUpto_zero (l.getD j 0) (l.getD (j + 1) 0))
      have hc1 : (j : Int) + 1 < (l.length : Int) := by omega
      go_wp2_with fail
      go_loopw [4, 6] (fun v k wr => InnerRel w l j out v k wr) (fun _ k _ => 256 - (intOf k).toNat)
      case atStart => exact ⟨HB.out, 0, by omega, rfl, by rw [hs0.out, List.append_nil]; exact HO.out⟩
      case round =>
        obtain ⟨hbr, n, hn, rfl, hown⟩ := hrel
        have HI := Lib.hid hown; have HB2 := Lib.hid hbr
        clear hown hbr
        by_cases hn2 : n < 256
        · obtain ⟨a, ha⟩ : ∃ a, a = l.getD j 0 := ⟨_, rfl⟩
          obtain ⟨b, hb⟩ : ∃ b, b = l.getD (j + 1) 0 := ⟨_, rfl⟩
          have kx := extract_two hlt
          rw [← ha, ← hb] at kx
          have hst := pairUpto_step a b n hn2
          have HY := Lib.hid (show Bytes (wr.alloc (.cells #[.int .u8 (n : Int)] 5)).drew (some ⟨wr.heap.size, 0, none⟩) [UInt8.ofNat n] from (bytes_one wr 5 (N := (n : Int)) (by omega) (by omega)).drew)
          have HAB := Lib.hid (And.intro ha hb)
          have j1 : (0 : Int) ≤ (j : Int) + 2 := by omega
          have j2 : (j : Int) + 2 ≤ (l.length : Int) := by omega
          have j3 : ((j : Int) + 2).toNat = j + 2 := by omega
          have j5 : (j : Int) ≤ (j : Int) + 2 := by omega
          have j6 : (0 : Int) ≤ (j : Int) := by omega
          have j4 : IntKind.i64.wrap ((j : Int) + 2) = (j : Int) + 2 := IntWalk.i64_in _ (by omega)
          have n4 : IntKind.u8.wrap (n : Int) = (n : Int) := by rw [IntKind.wrap_u8']; omega
          clear ha hb
          by_cases he : hexL [UInt8.ofNat n] = [a, b]
          · have hq : (hexL [UInt8.ofNat n] == [a, b]) = true := by simpa using he
            have hs := Lib.hid (hst.1 he)
            clear he hst
            go_wp2_with fail
            go_region_held3 (fun _ => True) (trivial) ((go_at_call 30; refine (refHex_any _ 1 1 [UInt8.ofNat n] rfl _ (by simp) HY.out).mono ?_; rintro e w3 ⟨rfl, k3, rfl⟩))
            clear j1 j2 j3 j4 j5 j6 n4 kx hq
            go_wp2_with (at_builtin; refine append_byte_at isBytes rfl (.tmp 28) (.tmp 31) rfl w _ _ rfl _ _ rfl ((HI.out.alloc (.cells #[.int .u8 (n : Int)] 5)).drewN _) (wr.heap.size + 1) rfl (by simp) ?_ ?_ ?_ (below_drewN (HB2.out.alloc HB2.out.size (.cells #[.int .u8 (n : Int)] 5)) _) ?_)
            · omega
            · omega
            · exact pairLen ho hlt hl _ _ _
            · intro v' w' hown' _ hb'
              have H' := Lib.hid hown'; have HB' := Lib.hid hb'
              clear hown' hb'
              go_wp2
              go_roundw
              case rel =>
                have e1 : pairUpto (l.getD j 0) (l.getD (j + 1) 0) (n + 1) = pairUpto (l.getD j 0) (l.getD (j + 1) 0) n ++ [UInt8.ofNat n] := by rw [← HAB.out.1, ← HAB.out.2]; exact hs.out
                have e2 : l.getD (j + 1) 0 = l[j + 1]'hlt := by simp [List.getD, hlt]
                exact ⟨HB'.out, n + 1, by omega, by go_num, by rw [e1, e2]; exact H'.out⟩
              case measure => simp [intOf]; omega
          · have hq : (hexL [UInt8.ofNat n] == [a, b]) = false := by simpa using he
            have hs := Lib.hid (hst.2 he)
            clear he hst
            go_wp2_with fail
            go_region_held3 (fun _ => True) (trivial) ((go_at_call 30; refine (refHex_any _ 1 1 [UInt8.ofNat n] rfl _ (by simp) HY.out).mono ?_; rintro e w3 ⟨rfl, k3, rfl⟩))
            clear j1 j2 j3 j4 j5 j6 n4 kx hq
            go_wp2_with fail
            go_roundw
            case rel => exact ⟨below_drewN (HB2.out.alloc HB2.out.size (.cells #[.int .u8 (n : Int)] 5)) _, n + 1, by omega, by go_num, by rw [← HAB.out.1, ← HAB.out.2, hs.out, HAB.out.1, HAB.out.2]; exact (HI.out.alloc (.cells #[.int .u8 (n : Int)] 5)).drewN _⟩
            case measure => simp [intOf]; omega
        · obtain rfl : n = 256 := by omega
          have hu := HI.out
          rw [pairUpto_all] at hu
          have H' := Lib.hid hu
          have hst := Lib.hid (scanL_step hlt HR.out)
          have hln := pairL_len (l.getD j 0) (l.getD (j + 1) 0)
          have HLN := Lib.hid hln
          clear hu hln
          go_wp2_with fail
          go_roundw
          case rel => exact ⟨HB2.out, j + 2, out ++ pairL (l.getD j 0) (l.getD (j + 1) 0), by omega, by go_num, by rw [List.length_append]; have := HLN.out; omega, H'.out, hst.out⟩
          case measure => simp [intOf]; omega
    · have hend := Lib.hid (scanL_end hlt HR.out)
      have hc1 : ¬ (j : Int) + 1 < (l.length : Int) := by omega
      obtain ⟨A, c, rfl, _, _, hA⟩ := HO.out.bytes'
      have HA := Lib.hid hA
      have hi := unhexL_is l
      rw [hend.out] at hi
      have HX := Lib.hid (fun n hn => refHex_any A n c out hn wo (by omega) HA.out)
      clear hA
      by_cases he : hexL out = l
      · rw [if_pos he] at hi
        have HI := Lib.hid hi
        have hq : (hexL out == l) = true := by simpa using he
        clear hi he
        go_wp2_with fail
        refine (HX.out _ rfl).mono ?_
        rintro e w3 ⟨rfl, k3, rfl⟩
        go_wp2_with fail
        go_ret2
        exact ⟨A, c, by rw [HI.out]; rfl, by rw [HI.out]; exact HA.out, below_drewN HB.out k3⟩
      · rw [if_neg he] at hi
        have HI := Lib.hid hi
        have hq : (hexL out == l) = false := by simpa using he
        clear hi he
        go_wp2_with fail
        refine (HX.out _ rfl).mono ?_
        rintro e w3 ⟨rfl, k3, rfl⟩
        go_wp2_with fail
        go_ret2
        exact ⟨none, 0, by rw [HI.out]; rfl, by rw [HI.out]; exact Bytes.nil _ _, below_drewN HB.out k3⟩
end Go.Proofs.YtjfbfboecpbgbaaDoor
