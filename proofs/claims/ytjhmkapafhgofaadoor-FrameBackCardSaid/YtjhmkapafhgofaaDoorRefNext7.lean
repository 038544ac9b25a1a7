/-
  The first message of bytes, as the document tells it.
-/
import Derived.Test.YtjhmkapafhgofaaDoorNext7
import Derived.Deep.QuietTactic
import Derived.BigQuiet
import Derived.Deep.RegionHeld3
namespace Go.Proofs.YtjhmkapafhgofaaDoor
set_option linter.unusedVariables false
open Go.RowKit

/-- What the document's Next tells: its bytes may lie in what was handed in. -/
def RefNextVal (w : World) (B : Nat) (x : Nx) (e : Ending) (w' : World) : Prop :=
  Below w.heap.size w w' ∧ ∃ A c A2 c2, e = .returned (.tuple #[.int .i64 (x.kind : Int), .slice A x.body.length c, .int .i64 (x.size : Int), .agg #[.int .i64 (x.code : Int), .int .i64 (x.sub : Int), .slice A2 x.data.length c2]]) ∧
    (x.body.length ≤ c ∧ c ≤ maxLen ∧ At w' B A x.body) ∧ (x.data.length ≤ c2 ∧ c2 ≤ maxLen ∧ Bytes w' A2 x.data)
theorem ref_val0 {w w' : World} {B : Nat} (hb : Below w.heap.size w w') {x : Nx} (hx : x = ⟨0, [], 0, 0, 0, []⟩) :
    RefNextVal w B x (.returned (.tuple #[.int .i64 0, .slice none 0 0, .int .i64 0, .agg #[.int .i64 0, .int .i64 0, .slice none 0 0]])) w' := by
  subst hx
  exact ⟨hb, none, 0, none, 0, rfl, ⟨Nat.le_refl _, Nat.zero_le _, At.nil _ _ _⟩, Nat.le_refl _, Nat.zero_le _, Bytes.nil _ _⟩
theorem ref_val1 {w w' : World} {B : Nat} {x : Nx} {s n c : Nat} {d : List UInt8} {A : Option Addr} (hx : x = ⟨0, [], 0, 1, s, d⟩) (hn : n = d.length) (hb : Below w.heap.size w w') (h1 : d.length ≤ c) (h2 : c ≤ maxLen) (ho : Bytes w' A d) :
    RefNextVal w B x (.returned (.tuple #[.int .i64 0, .slice none 0 0, .int .i64 0, .agg #[.int .i64 1, .int .i64 (s : Int), .slice A n c]])) w' := by
  subst hx; subst hn
  exact ⟨hb, none, 0, A, c, rfl, ⟨Nat.le_refl _, Nat.zero_le _, At.nil _ _ _⟩, h1, h2, ho⟩
theorem ref_val2 {w w' : World} {B : Nat} {x : Nx} {K S n c : Nat} {T : List UInt8} {A : Option Addr} (hx : x = ⟨K, T, S, 0, 0, []⟩) (hn : n = T.length) (hb : Below w.heap.size w w') (h1 : T.length ≤ c) (h2 : c ≤ maxLen) (ho : At w' B A T) :
    RefNextVal w B x (.returned (.tuple #[.int .i64 (K : Int), .slice A n c, .int .i64 (S : Int), .agg #[.int .i64 0, .int .i64 0, .slice none 0 0]])) w' := by
  subst hx; subst hn
  exact ⟨hb, A, c, none, 0, rfl, ⟨h1, h2, ho⟩, Nat.le_refl _, Nat.zero_le _, Bytes.nil _ _⟩

set_option maxHeartbeats 1600000 in
theorem refnext_short (B : Nat) (A : Option Addr) (c : Nat) (l : List UInt8) (w : World) (hl : l.length < 19) :
    Calls Tryd.prog 15 #[.slice A l.length c] w (RefNextVal w B (nextF l)) := by
  have HX := Lib.hid (nextF_short hl)
  go_enter Tryd.func15, Tryd.ntmps15
  go_wp2_with fail
  go_region
  all_goals (go_wp2_with fail)
  exact bodyPost_ret (v := .tuple #[.int .i64 0, .slice none 0 0, .int .i64 0, .agg #[.int .i64 0, .int .i64 0, .slice none 0 0]]) (by simp [results, Tryd.results15, go_sem]) rfl (ref_val0 (((Below.refl _ _).alloc (Nat.le_refl _) _).alloc (by simp) _).drew HX.out)

theorem syncB_false {l : List UInt8} {j : Nat} (hj : j < 16) (hl : j < l.length) (hb : l.getD j 0 ≠ 255) : syncB l = false := by
  have h := all255_no (l := l.take 16) (j := j) (by simp; omega) (by
    have e : (l.take 16).getD j 0 = l.getD j 0 := by simp [List.getD, hj]
    rw [e]; simpa using hb)
  exact h
theorem syncB_true {l : List UInt8} (h : all255 l 16 = true) : syncB l = true := h

/-- Two new blocks, in either order: what they hold. -/
theorem two_new1 (W2 : World) (xa xb e f : Nat) (hn : True := trivial) :
    Blk ((W2.alloc (.cells #[.int .u8 (xa : Int), .int .u8 (xb : Int)] e)).alloc (.cells #[.int .i64 1, .int .i64 2, .slice (some ⟨W2.heap.size, 0, none⟩) 2 2] f)).drew (W2.heap.size + 1) f [.int .i64 1, .int .i64 2, .slice (some ⟨W2.heap.size, 0, none⟩) 2 2] ∧
    Blk ((W2.alloc (.cells #[.int .u8 (xa : Int), .int .u8 (xb : Int)] e)).alloc (.cells #[.int .i64 1, .int .i64 2, .slice (some ⟨W2.heap.size, 0, none⟩) 2 2] f)).drew W2.heap.size e [.int .u8 (xa : Int), .int .u8 (xb : Int)] ∧
    Below W2.heap.size W2 ((W2.alloc (.cells #[.int .u8 (xa : Int), .int .u8 (xb : Int)] e)).alloc (.cells #[.int .i64 1, .int .i64 2, .slice (some ⟨W2.heap.size, 0, none⟩) 2 2] f)).drew := by
  refine ⟨?_, ?_, (((Below.refl _ _).alloc (Nat.le_refl _) _).alloc (by simp) _).drew⟩
  · have h := (Blk.new (W2.alloc (.cells #[.int .u8 (xa : Int), .int .u8 (xb : Int)] e)) f [.int .i64 1, .int .i64 2, .slice (some ⟨W2.heap.size, 0, none⟩) 2 2]).drewN 1
    have hz : (W2.alloc (.cells #[.int .u8 (xa : Int), .int .u8 (xb : Int)] e)).heap.size = W2.heap.size + 1 := by simp
    rw [hz] at h
    exact h
  · exact ((Blk.new W2 e [.int .u8 (xa : Int), .int .u8 (xb : Int)]).below ((Below.refl _ _).alloc (Nat.le_refl _) _) (by simp)).drewN 1
theorem two_new2 (W2 : World) (xa xb e f : Nat) (hn : True := trivial) :
    Blk ((W2.alloc (.cells #[.int .i64 1, .int .i64 2, .slice (some ⟨W2.heap.size + 1, 0, none⟩) 2 2] f)).alloc (.cells #[.int .u8 (xa : Int), .int .u8 (xb : Int)] e)).drew W2.heap.size f [.int .i64 1, .int .i64 2, .slice (some ⟨W2.heap.size + 1, 0, none⟩) 2 2] ∧
    Blk ((W2.alloc (.cells #[.int .i64 1, .int .i64 2, .slice (some ⟨W2.heap.size + 1, 0, none⟩) 2 2] f)).alloc (.cells #[.int .u8 (xa : Int), .int .u8 (xb : Int)] e)).drew (W2.heap.size + 1) e [.int .u8 (xa : Int), .int .u8 (xb : Int)] ∧
    Below W2.heap.size W2 ((W2.alloc (.cells #[.int .i64 1, .int .i64 2, .slice (some ⟨W2.heap.size + 1, 0, none⟩) 2 2] f)).alloc (.cells #[.int .u8 (xa : Int), .int .u8 (xb : Int)] e)).drew := by
  refine ⟨?_, ?_, (((Below.refl _ _).alloc (Nat.le_refl _) _).alloc (by simp) _).drew⟩
  · exact ((Blk.new W2 f [.int .i64 1, .int .i64 2, .slice (some ⟨W2.heap.size + 1, 0, none⟩) 2 2]).below ((Below.refl _ _).alloc (Nat.le_refl _) _) (by simp)).drewN 1
  · have h := (Blk.new (W2.alloc (.cells #[.int .i64 1, .int .i64 2, .slice (some ⟨W2.heap.size + 1, 0, none⟩) 2 2] f)) e [.int .u8 (xa : Int), .int .u8 (xb : Int)]).drewN 1
    have hz : (W2.alloc (.cells #[.int .i64 1, .int .i64 2, .slice (some ⟨W2.heap.size + 1, 0, none⟩) 2 2] f)).heap.size = W2.heap.size + 1 := by simp
    rw [hz] at h
    exact h
theorem bytes_of_blk {w : World} {g e : Nat} {d : List UInt8} (h : Blk w g e (d.map fun b => Value.int .u8 (b.toNat : Int))) : Bytes w (some ⟨g, 0, none⟩) d :=
  fun _ => ⟨g, 0, rfl, h.lt, fun j hj => by rw [h.cell]; simp [List.getD, hj]⟩

set_option maxHeartbeats 12800000 in
set_option maxRecDepth 100000 in
theorem refnext_long (w : World) (B b off : Nat) (hbB : b < B) (hBw : B ≤ w.heap.size) (c : Nat) (l : List UInt8) (hb : b < w.heap.size) (hc : ∀ j, j < l.length → w.cell? ⟨b, off + j, none⟩ = some (.int .u8 ((l.getD j 0).toNat : Int))) (h1 : l.length ≤ c) (h2 : c ≤ maxLen) (hl : ¬ l.length < 19) (hm : l.length ≤ 1000000) :
    Calls Tryd.prog 15 #[.slice (some ⟨b, off, none⟩) l.length c] w (RefNextVal w B (nextF l)) := by
  have HC := Lib.hid hc
  obtain ⟨n, hn⟩ : ∃ n, n = l.length := ⟨_, rfl⟩
  have hn19 : 19 ≤ n := by omega
  have HN := Lib.hid hn
  have HF1 := Lib.hid (fun s d hf => nextF_fault (l := l) (d := d) (s := s) hl hf)
  have hmm : n ≤ 1000000 := by omega
  have a16 := byteN_lt l 16; have a17 := byteN_lt l 17; have a18 := byteN_lt l 18
  have k16 : w.cell? ⟨b, off + 16, none⟩ = some (.int .u8 (byteN l 16 : Nat)) := hc 16 (by omega)
  have k17 : w.cell? ⟨b, off + 17, none⟩ = some (.int .u8 (byteN l 17 : Nat)) := hc 17 (by omega)
  have k18 : w.cell? ⟨b, off + 18, none⟩ = some (.int .u8 (byteN l 18 : Nat)) := hc 18 (by omega)
  have HS := Lib.hid (show sizeF l = 256 * byteN l 16 + byteN l 17 from rfl)
  have HKd := Lib.hid (show kindF l = byteN l 18 from rfl)
  rw [← hn]
  clear hc hn
  obtain ⟨xa, hxa⟩ : ∃ x, x = byteN l 16 := ⟨_, rfl⟩
  obtain ⟨xb, hxb⟩ : ∃ x, x = byteN l 17 := ⟨_, rfl⟩
  obtain ⟨xk, hxk⟩ : ∃ x, x = byteN l 18 := ⟨_, rfl⟩
  rw [← hxa] at a16 k16 HS; rw [← hxb] at a17 k17 HS; rw [← hxk] at a18 k18 HKd
  have HXA := Lib.hid hxa; have HXB := Lib.hid hxb; have HXK := Lib.hid hxk
  have hcm := h2
  have hnc : n ≤ c := by have := HN.out; omega
  have hmc : c ≤ 9223372036854775807 := by unfold maxLen at h2; omega
  clear hxa hxb hxk h1 h2 hl hm
  obtain ⟨S, hS⟩ : ∃ S, S = 256 * xa + xb := ⟨_, rfl⟩
  rw [← hS] at HS
  go_enter Tryd.func15, Tryd.ntmps15
  go_wp2_with fail
  go_loop [7] (fun i => ∃ j : Nat, j ≤ 16 ∧ i = .int .i64 (j : Int) ∧ Hid (all255 l j = true)) (fun i => 16 - (intOf i).toNat)
  case atStart => exact ⟨0, Nat.zero_le _, rfl, Lib.hid (by simp [all255])⟩
  case round =>
    obtain ⟨j, hj, rfl, hno⟩ := hrel
    by_cases hlt : j < 16
    · have kj := HC.out j (by have := HN.out; omega)
      have HSt := Lib.hid (fun h => all255_step (l := l) (j := j) (by have := HN.out; omega) hno.out h)
      have HNo := Lib.hid (fun h => syncB_false (l := l) (j := j) hlt (by have := HN.out; omega) h)
      obtain ⟨x, hx⟩ : ∃ x, x = l.getD j 0 := ⟨_, rfl⟩
      rw [← hx] at kj HSt HNo
      clear hx
      have hjn : j < n := by omega
      by_cases hx : x = 255
      · subst hx
        have hxx : (((255 : UInt8).toNat : Int) != 255) = false := by rfl
        have HSt' := Lib.hid (HSt.out rfl)
        clear HSt HNo
        go_wp2_with fail
        go_round
        case rel => exact ⟨j + 1, by omega, by go_num, HSt'⟩
        case measure => simp [intOf]; omega
      · have HNo' := Lib.hid (HNo.out hx)
        have hxx : ((x.toNat : Int) != 255) = true := by
          simp only [bne_iff_ne, ne_eq]
          intro h
          exact hx (UInt8.toNat_inj.1 (by have : (255 : UInt8).toNat = 255 := rfl; omega))
        clear HSt HNo hx
        go_wp2_with fail
        exact bodyPost_ret (v := .tuple #[.int .i64 0, .slice none 0 0, .int .i64 0, .agg #[.int .i64 1, .int .i64 1, .slice none 0 0]]) (by simp [results, Tryd.results15, go_sem]) rfl
          (ref_val1 (s := 1) (HF1.out 1 [] (by unfold faultF; rw [HNo'.out]; rfl)) rfl (((Below.refl _ _).alloc (Nat.le_refl _) _).alloc (by simp) _) (Nat.le_refl _) (Nat.zero_le _) (Bytes.nil _ _))
    · obtain rfl : j = 16 := by omega
      have HSY := Lib.hid (syncB_true hno.out)
      clear hno
      have e1 : IntKind.i64.wrap (256 * (xa : Int)) = 256 * (xa : Int) := IntWalk.i64_in _ (by omega)
      have e2 : IntKind.i64.wrap (256 * (xa : Int) + (xb : Int)) = (S : Int) := by rw [IntWalk.i64_in _ (by omega)]; omega
      have q16 : (16 : Int) < (n : Int) := by omega
      have q17 : (17 : Int) < (n : Int) := by omega
      have q18 : (18 : Int) < (n : Int) := by omega
      have HSS := Lib.hid hS; clear hS
      go_wp2_with fail
      go_quiet (fail)
      clear e1 e2
      go_wp2_with fail
      have kR : Blk (((w.alloc (.cells #[.int .i64 0, .int .i64 0, .slice none 0 0] 33)).alloc (.cells #[.int .i64 0, .int .i64 0, .slice none 0 0] 33)).drewN nq) w.heap.size 33 [.int .i64 0, .int .i64 0, .slice none 0 0] := ((Blk.new w 33 [.int .i64 0, .int .i64 0, .slice none 0 0]).below ((Below.refl _ _).alloc (Nat.le_refl _) _) (by simp) : Blk ((w.alloc (.cells #[.int .i64 0, .int .i64 0, .slice none 0 0] 33)).alloc (.cells #[.int .i64 0, .int .i64 0, .slice none 0 0] 33)) _ _ _).drewN nq
      have kN : Blk (((w.alloc (.cells #[.int .i64 0, .int .i64 0, .slice none 0 0] 33)).alloc (.cells #[.int .i64 0, .int .i64 0, .slice none 0 0] 33)).drewN nq) (w.heap.size + 1) 33 [.int .i64 0, .int .i64 0, .slice none 0 0] := by
        have h := (Blk.new (w.alloc (.cells #[.int .i64 0, .int .i64 0, .slice none 0 0] 33)) 33 [.int .i64 0, .int .i64 0, .slice none 0 0]).drewN nq
        have hz : (w.alloc (.cells #[.int .i64 0, .int .i64 0, .slice none 0 0] 33)).heap.size = w.heap.size + 1 := by simp
        rw [hz] at h
        exact h
      have hbW : Below w.heap.size w (((w.alloc (.cells #[.int .i64 0, .int .i64 0, .slice none 0 0] 33)).alloc (.cells #[.int .i64 0, .int .i64 0, .slice none 0 0] 33)).drewN nq) := below_drewN (((Below.refl _ _).alloc (Nat.le_refl _) _).alloc (by simp) _) nq
      have hzW : (((w.alloc (.cells #[.int .i64 0, .int .i64 0, .slice none 0 0] 33)).alloc (.cells #[.int .i64 0, .int .i64 0, .slice none 0 0] 33)).drewN nq).heap.size = w.heap.size + 2 := by simp
      have m16 := (hbW.cell (p := ⟨b, off + 16, none⟩) hb).trans k16
      have m17 := (hbW.cell (p := ⟨b, off + 17, none⟩) hb).trans k17
      have m18 := (hbW.cell (p := ⟨b, off + 18, none⟩) hb).trans k18
      obtain ⟨W2, hW2⟩ : ∃ W2, W2 = (((w.alloc (.cells #[.int .i64 0, .int .i64 0, .slice none 0 0] 33)).alloc (.cells #[.int .i64 0, .int .i64 0, .slice none 0 0] 33)).drewN nq) := ⟨_, rfl⟩
      rw [← hW2] at kR kN hbW hzW m16 m17 m18
      rw [← hW2]
      clear hW2 k16 k17 k18
      have n16 := World.new_ne W2 _ m16
      have n17 := World.new_ne W2 _ m17
      have n18 := World.new_ne W2 _ m18
      have hal := (Below.refl W2.heap.size W2).alloc (Nat.le_refl _) (.cells #[.int .i64 0, .int .i64 0, .slice none 0 0] 33)
      have p16 := (hal.cell (p := ⟨b, off + 16, none⟩) (by show b < _; omega)).trans m16
      have p17 := (hal.cell (p := ⟨b, off + 17, none⟩) (by show b < _; omega)).trans m17
      clear hal
      have HKR := Lib.hid kR; have HKN := Lib.hid kN; have HBW := Lib.hid hbW; have HZW := Lib.hid hzW
      clear kR kN hbW hzW
      go_region
      · obtain ⟨kF, kD, hb3⟩ := two_new1 W2 xa xb 5 33
        have kR3 := HKR.out.below hb3 (by have := HZW.out; omega)
        have kN3 := HKN.out.below hb3 (by have := HZW.out; omega)
        have m18' := (hb3.cell (p := ⟨b, off + 18, none⟩) (World.block_lt_of_cell? _ _ m18)).trans m18
        have hDR : W2.heap.size ≠ w.heap.size := by have := HZW.out; omega
        replace hb3 := HBW.out.trans (hb3.mono HBW.out.size)
        obtain ⟨W3, hW3⟩ : ∃ W3, W3 = ((W2.alloc (.cells #[.int .u8 (xa : Int), .int .u8 (xb : Int)] 5)).alloc (.cells #[.int .i64 1, .int .i64 2, .slice (some ⟨W2.heap.size, 0, none⟩) 2 2] 33)).drew := ⟨_, rfl⟩
        rw [← hW3] at kF kD hb3 kR3 kN3 m18'
        rw [← hW3]
        obtain ⟨F, hF⟩ : ∃ F, F = W2.heap.size + 1 := ⟨_, rfl⟩
        obtain ⟨D, hD⟩ : ∃ D, D = W2.heap.size := ⟨_, rfl⟩
        rw [← hF, ← hD] at kF; rw [← hD] at kD hDR; rw [← hF, ← hD]
        clear hW3 hF hD m16 m17 m18 n16 n17 n18 p16 p17
        have HKF := Lib.hid kF; have HKD' := Lib.hid kD; have HB3 := Lib.hid hb3; have HKR3 := Lib.hid kR3; have HKN3 := Lib.hid kN3
        have HKD := Lib.hid (show Blk W3 D 5 (([l.getD 16 0, l.getD 17 0] : List UInt8).map fun b => Value.int .u8 (b.toNat : Int)) from by
          have h := kD
          rw [HXA.out, HXB.out] at h
          exact h)
        have cF := cells3 kF
        have cR := cells3 kR3
        have fR := free3 kR3
        have HDR := Lib.hid hDR
        have HE := Lib.hid (show faultF l = headAns true S xk [l.getD 16 0, l.getD 17 0] by unfold faultF; rw [HSY.out, HS.out, HKd.out])
        clear kF kD kR3 kN3 hb3 hDR
        by_cases h19 : S < 19
        · have r7 := res3 (.int .i64 1) (.int .i64 2) (.slice (some ⟨D, 0, none⟩) 2 2) HKR3.out
          have AN := Lib.hid (HE.out.trans (ans2 (.inl h19)))
          go_wp2_with fail
          go_region
          all_goals (go_wp2_with fail)
          exact bodyPost_ret (v := .tuple #[.int .i64 0, .slice none 0 0, .int .i64 0, .agg #[.int .i64 1, .int .i64 2, .slice (some ⟨D, 0, none⟩) 2 2]]) (by simp [results, Tryd.results15, go_sem, r7.1, r7.2.1, r7.2.2]) rfl
            (ref_val1 (s := 2) (HF1.out 2 _ AN.out) rfl (below_set3' HB3.out (Nat.le_refl _)).drew (Nat.le_refl _) (by unfold maxLen; simp) (bytes_of_blk (HKD.out.grown (grown_set3 _ _ _ _ _) HDR.out)).drew)
        · by_cases h40 : 4096 < S
          · have r7 := res3 (.int .i64 1) (.int .i64 2) (.slice (some ⟨D, 0, none⟩) 2 2) HKR3.out
            have AN := Lib.hid (HE.out.trans (ans2 (.inr h40)))
            go_wp2_with fail
            go_region
            all_goals (go_wp2_with fail)
            exact bodyPost_ret (v := .tuple #[.int .i64 0, .slice none 0 0, .int .i64 0, .agg #[.int .i64 1, .int .i64 2, .slice (some ⟨D, 0, none⟩) 2 2]]) (by simp [results, Tryd.results15, go_sem, r7.1, r7.2.1, r7.2.2]) rfl
              (ref_val1 (s := 2) (HF1.out 2 _ AN.out) rfl (below_set3' HB3.out (Nat.le_refl _)).drew (Nat.le_refl _) (by unfold maxLen; simp) (bytes_of_blk (HKD.out.grown (grown_set3 _ _ _ _ _) HDR.out)).drew)
          · obtain ⟨L, hL⟩ : ∃ L, L = leastN (xk : Int) := ⟨_, rfl⟩
            have ql := RefLeast_any (xk : Int) W3
            rw [← hL] at ql
            have QL := Lib.hid ql
            have HLL := Lib.hid hL
            clear hL ql
            have h1940 : ¬ (S < 19 ∨ 4096 < S) := by omega
            by_cases hL0 : L = 0
            · have AN := Lib.hid (HE.out.trans (ans3 h1940 (HLL.out ▸ hL0)))
              have r7 := res3 (.int .i64 1) (.int .i64 3) (.slice (some ⟨W3.heap.size, 0, none⟩) 1 1) (HKR3.out.below ((Below.refl _ _).alloc (Nat.le_refl _) (.cells #[.int .u8 (xk : Int)] 5)) HKR3.out.lt)
              have cR2 := cells3 (HKR3.out.below ((Below.refl _ _).alloc (Nat.le_refl _) (.cells #[.int .u8 (xk : Int)] 5)) HKR3.out.lt)
              have fR2 := free3 (HKR3.out.below ((Below.refl _ _).alloc (Nat.le_refl _) (.cells #[.int .u8 (xk : Int)] 5)) HKR3.out.lt)
              have HOB := Lib.hid (own_one W3 5 xk a18)
              have HRlt := Lib.hid HKR3.out.lt
              subst hL0
              clear h1940
              go_wp2_with (go_at_call 13; refine QL.out.mono ?_; rintro e w6' ⟨rfl, rfl⟩)
              go_region
              all_goals (go_wp2_with fail)
              exact bodyPost_ret (v := .tuple #[.int .i64 0, .slice none 0 0, .int .i64 0, .agg #[.int .i64 1, .int .i64 3, .slice (some ⟨W3.heap.size, 0, none⟩) 1 1]]) (by simp [results, Tryd.results15, go_sem, r7.1, r7.2.1, r7.2.2]) rfl
                (ref_val1 (s := 3) (HF1.out 3 _ AN.out) rfl (below_set3' (HB3.out.alloc HB3.out.size _) (Nat.le_refl _)).drew (Nat.le_refl _) (by unfold maxLen; simp) (Own.bytes (HOB.out.beside (grown_set3 _ _ _ _ _) HRlt.out)).drew)
            · have hl0 : ((L : Int) == 0) = false := by simpa using hL0
              by_cases h4 : S < L ∨ xk = 4 ∧ 19 < S
              · have AN := Lib.hid (HE.out.trans (ans4 h1940 (HLL.out ▸ hL0) (HLL.out ▸ h4)))
                have r7 := res3 (.int .i64 1) (.int .i64 2) (.slice (some ⟨D, 0, none⟩) 2 2) HKR3.out
                rcases (show S < L ∨ ¬ S < L ∧ xk = 4 ∧ 19 < S by omega) with hs | ⟨hs, hk4, hs4⟩
                · clear h4 h1940 hL0
                  go_wp2_with (go_at_call 13; refine QL.out.mono ?_; rintro e w6' ⟨rfl, rfl⟩)
                  go_region
                  all_goals (go_wp2_with fail)
                  exact bodyPost_ret (v := .tuple #[.int .i64 0, .slice none 0 0, .int .i64 0, .agg #[.int .i64 1, .int .i64 2, .slice (some ⟨D, 0, none⟩) 2 2]]) (by simp [results, Tryd.results15, go_sem, r7.1, r7.2.1, r7.2.2]) rfl
                    (ref_val1 (s := 2) (HF1.out 2 _ AN.out) rfl (below_set3' HB3.out (Nat.le_refl _)).drew (Nat.le_refl _) (by unfold maxLen; simp) (bytes_of_blk (HKD.out.grown (grown_set3 _ _ _ _ _) HDR.out)).drew)
                · have hb4 : ((xk : Int) == 4) = true := by simp; omega
                  clear h4 h1940 hL0 hk4
                  go_wp2_with (go_at_call 13; refine QL.out.mono ?_; rintro e w6' ⟨rfl, rfl⟩)
                  go_region
                  all_goals (go_wp2_with fail)
                  exact bodyPost_ret (v := .tuple #[.int .i64 0, .slice none 0 0, .int .i64 0, .agg #[.int .i64 1, .int .i64 2, .slice (some ⟨D, 0, none⟩) 2 2]]) (by simp [results, Tryd.results15, go_sem, r7.1, r7.2.1, r7.2.2]) rfl
                    (ref_val1 (s := 2) (HF1.out 2 _ AN.out) rfl (below_set3' HB3.out (Nat.le_refl _)).drew (Nat.le_refl _) (by unfold maxLen; simp) (bytes_of_blk (HKD.out.grown (grown_set3 _ _ _ _ _) HDR.out)).drew)
              · have AN := Lib.hid (HE.out.trans (ans5 h1940 (HLL.out ▸ hL0) (HLL.out ▸ h4)))
                have hs : ¬ S < L := by omega
                have HXW := Lib.hid (fun h => nextF_wait (l := l) (by have := HN.out; omega) AN.out h)
                have HXO := Lib.hid (fun h => nextF_ok (l := l) (by have := HN.out; omega) AN.out h)
                have cN := cells3 HKN3.out
                by_cases hk4 : xk = 4
                · have hb4 : ((xk : Int) == 4) = true := by simp; omega
                  have hs19 : ¬ 19 < S := by omega
                  clear h4 h1940 hL0 hk4
                  by_cases hsn : n < S
                  · exact absurd hsn (by omega)
                  · have hx := HXO.out (by rw [HS.out]; have := HN.out; omega)
                    rw [HKd.out, HS.out] at hx
                    have HX := Lib.hid hx
                    have r7 := res3 (.int .i64 0) (.int .i64 0) (.slice none 0 0) HKR3.out
                    have hB0 : At w B (some ⟨b, off, none⟩) l := fun _ => ⟨b, off, rfl, hbB, HC.out⟩
                    have HY := Lib.hid (((hB0.below (below_set3' (u := .int .i64 0) (v := .int .i64 0) (x := .slice none 0 0) HB3.out (Nat.le_refl _)).drew hBw).take S).drop (k := 19) (c := c) (by simp; have := HN.out; omega))
                    have HBL := Lib.hid (show S - 19 = ((l.take S).drop 19).length by simp; have := HN.out; omega)
                    have hS1 : (19 : Int) ≤ (S : Int) := by omega
                    have hS2 : (S : Int) ≤ (c : Int) := by omega
                    obtain ⟨T, hT⟩ : ∃ T, T = (l.take S).drop 19 := ⟨_, rfl⟩
                    rw [← hT] at HY HBL HX
                    clear HXW HXO hx hT hB0
                    by_cases hc : c = 19
                    · subst hc
                      obtain rfl : S = 19 := by omega
                      have hy := HY.out
                      first | rw [if_pos trivial] at hy | rw [if_pos rfl] at hy
                      have HY := Lib.hid hy
                      clear hy
                      go_wp2_with (go_at_call 13; refine QL.out.mono ?_; rintro e w6' ⟨rfl, rfl⟩)
                      go_region
                      all_goals (go_wp2_with fail)
                      exact bodyPost_ret (v := .tuple #[.int .i64 (xk : Int), .slice (some ⟨b, off, none⟩) 0 0, .int .i64 ((19 : Nat) : Int), .agg #[.int .i64 0, .int .i64 0, .slice none 0 0]]) (by simp [results, Tryd.results15, go_sem, r7.1, r7.2.1, r7.2.2]) rfl
                        (ref_val2 HX.out HBL.out (below_set3' HB3.out (Nat.le_refl _)).drew (by have := HBL.out; omega) (Nat.zero_le _) HY.out)
                    · have hy := HY.out
                      first | rw [if_neg hc] at hy | skip
                      have HY := Lib.hid hy
                      clear hy
                      go_wp2_with (go_at_call 13; refine QL.out.mono ?_; rintro e w6' ⟨rfl, rfl⟩)
                      go_region
                      all_goals (go_wp2_with fail)
                      exact bodyPost_ret (v := .tuple #[.int .i64 (xk : Int), .slice (some ⟨b, off + 19, none⟩) (S - 19) (c - 19), .int .i64 (S : Int), .agg #[.int .i64 0, .int .i64 0, .slice none 0 0]]) (by simp [results, Tryd.results15, go_sem, r7.1, r7.2.1, r7.2.2]) rfl
                        (ref_val2 HX.out HBL.out (below_set3' HB3.out (Nat.le_refl _)).drew (by have := HBL.out; omega) (by unfold maxLen at hcm ⊢; omega) HY.out)
                · have hb4 : ((xk : Int) == 4) = false := by simp; omega
                  clear h4 h1940 hL0 hk4
                  by_cases hsn : n < S
                  · have HX := Lib.hid (HXW.out (by rw [HS.out]; have := HN.out; omega))
                    have r7 := res3 (.int .i64 0) (.int .i64 0) (.slice none 0 0) HKR3.out
                    clear HXW HXO
                    go_wp2_with (go_at_call 13; refine QL.out.mono ?_; rintro e w6' ⟨rfl, rfl⟩)
                    go_region
                    all_goals (go_wp2_with fail)
                    exact bodyPost_ret (v := .tuple #[.int .i64 0, .slice none 0 0, .int .i64 0, .agg #[.int .i64 0, .int .i64 0, .slice none 0 0]]) (by simp [results, Tryd.results15, go_sem, r7.1, r7.2.1, r7.2.2]) rfl
                      (ref_val0 (below_set3' HB3.out (Nat.le_refl _)).drew HX.out)
                  · have hx := HXO.out (by rw [HS.out]; have := HN.out; omega)
                    rw [HKd.out, HS.out] at hx
                    have HX := Lib.hid hx
                    have r7 := res3 (.int .i64 0) (.int .i64 0) (.slice none 0 0) HKR3.out
                    have hB0 : At w B (some ⟨b, off, none⟩) l := fun _ => ⟨b, off, rfl, hbB, HC.out⟩
                    have HY := Lib.hid (((hB0.below (below_set3' (u := .int .i64 0) (v := .int .i64 0) (x := .slice none 0 0) HB3.out (Nat.le_refl _)).drew hBw).take S).drop (k := 19) (c := c) (by simp; have := HN.out; omega))
                    have HBL := Lib.hid (show S - 19 = ((l.take S).drop 19).length by simp; have := HN.out; omega)
                    have hS1 : (19 : Int) ≤ (S : Int) := by omega
                    have hS2 : (S : Int) ≤ (c : Int) := by omega
                    obtain ⟨T, hT⟩ : ∃ T, T = (l.take S).drop 19 := ⟨_, rfl⟩
                    rw [← hT] at HY HBL HX
                    clear HXW HXO hx hT hB0
                    by_cases hc : c = 19
                    · subst hc
                      obtain rfl : S = 19 := by omega
                      have hy := HY.out
                      first | rw [if_pos trivial] at hy | rw [if_pos rfl] at hy
                      have HY := Lib.hid hy
                      clear hy
                      go_wp2_with (go_at_call 13; refine QL.out.mono ?_; rintro e w6' ⟨rfl, rfl⟩)
                      go_region
                      all_goals (go_wp2_with fail)
                      exact bodyPost_ret (v := .tuple #[.int .i64 (xk : Int), .slice (some ⟨b, off, none⟩) 0 0, .int .i64 ((19 : Nat) : Int), .agg #[.int .i64 0, .int .i64 0, .slice none 0 0]]) (by simp [results, Tryd.results15, go_sem, r7.1, r7.2.1, r7.2.2]) rfl
                        (ref_val2 HX.out HBL.out (below_set3' HB3.out (Nat.le_refl _)).drew (by have := HBL.out; omega) (Nat.zero_le _) HY.out)
                    · have hy := HY.out
                      first | rw [if_neg hc] at hy | skip
                      have HY := Lib.hid hy
                      clear hy
                      go_wp2_with (go_at_call 13; refine QL.out.mono ?_; rintro e w6' ⟨rfl, rfl⟩)
                      go_region
                      all_goals (go_wp2_with fail)
                      exact bodyPost_ret (v := .tuple #[.int .i64 (xk : Int), .slice (some ⟨b, off + 19, none⟩) (S - 19) (c - 19), .int .i64 (S : Int), .agg #[.int .i64 0, .int .i64 0, .slice none 0 0]]) (by simp [results, Tryd.results15, go_sem, r7.1, r7.2.1, r7.2.2]) rfl
                        (ref_val2 HX.out HBL.out (below_set3' HB3.out (Nat.le_refl _)).drew (by have := HBL.out; omega) (by unfold maxLen at hcm ⊢; omega) HY.out)
      · obtain ⟨kF, kD, hb3⟩ := two_new2 W2 xa xb 5 33
        have kR3 := HKR.out.below hb3 (by have := HZW.out; omega)
        have kN3 := HKN.out.below hb3 (by have := HZW.out; omega)
        have m18' := (hb3.cell (p := ⟨b, off + 18, none⟩) (World.block_lt_of_cell? _ _ m18)).trans m18
        have hDR : W2.heap.size + 1 ≠ w.heap.size := by have := HZW.out; omega
        replace hb3 := HBW.out.trans (hb3.mono HBW.out.size)
        obtain ⟨W3, hW3⟩ : ∃ W3, W3 = ((W2.alloc (.cells #[.int .i64 1, .int .i64 2, .slice (some ⟨W2.heap.size + 1, 0, none⟩) 2 2] 33)).alloc (.cells #[.int .u8 (xa : Int), .int .u8 (xb : Int)] 5)).drew := ⟨_, rfl⟩
        rw [← hW3] at kF kD hb3 kR3 kN3 m18'
        rw [← hW3]
        obtain ⟨F, hF⟩ : ∃ F, F = W2.heap.size := ⟨_, rfl⟩
        obtain ⟨D, hD⟩ : ∃ D, D = W2.heap.size + 1 := ⟨_, rfl⟩
        rw [← hD, ← hF] at kF; rw [← hD] at kD hDR; rw [← hD, ← hF]
        clear hW3 hF hD m16 m17 m18 n16 n17 n18 p16 p17
        have HKF := Lib.hid kF; have HKD' := Lib.hid kD; have HB3 := Lib.hid hb3; have HKR3 := Lib.hid kR3; have HKN3 := Lib.hid kN3
        have HKD := Lib.hid (show Blk W3 D 5 (([l.getD 16 0, l.getD 17 0] : List UInt8).map fun b => Value.int .u8 (b.toNat : Int)) from by
          have h := kD
          rw [HXA.out, HXB.out] at h
          exact h)
        have cF := cells3 kF
        have cR := cells3 kR3
        have fR := free3 kR3
        have HDR := Lib.hid hDR
        have HE := Lib.hid (show faultF l = headAns true S xk [l.getD 16 0, l.getD 17 0] by unfold faultF; rw [HSY.out, HS.out, HKd.out])
        clear kF kD kR3 kN3 hb3 hDR
        by_cases h19 : S < 19
        · have r7 := res3 (.int .i64 1) (.int .i64 2) (.slice (some ⟨D, 0, none⟩) 2 2) HKR3.out
          have AN := Lib.hid (HE.out.trans (ans2 (.inl h19)))
          go_wp2_with fail
          go_region
          all_goals (go_wp2_with fail)
          exact bodyPost_ret (v := .tuple #[.int .i64 0, .slice none 0 0, .int .i64 0, .agg #[.int .i64 1, .int .i64 2, .slice (some ⟨D, 0, none⟩) 2 2]]) (by simp [results, Tryd.results15, go_sem, r7.1, r7.2.1, r7.2.2]) rfl
            (ref_val1 (s := 2) (HF1.out 2 _ AN.out) rfl (below_set3' HB3.out (Nat.le_refl _)).drew (Nat.le_refl _) (by unfold maxLen; simp) (bytes_of_blk (HKD.out.grown (grown_set3 _ _ _ _ _) HDR.out)).drew)
        · by_cases h40 : 4096 < S
          · have r7 := res3 (.int .i64 1) (.int .i64 2) (.slice (some ⟨D, 0, none⟩) 2 2) HKR3.out
            have AN := Lib.hid (HE.out.trans (ans2 (.inr h40)))
            go_wp2_with fail
            go_region
            all_goals (go_wp2_with fail)
            exact bodyPost_ret (v := .tuple #[.int .i64 0, .slice none 0 0, .int .i64 0, .agg #[.int .i64 1, .int .i64 2, .slice (some ⟨D, 0, none⟩) 2 2]]) (by simp [results, Tryd.results15, go_sem, r7.1, r7.2.1, r7.2.2]) rfl
              (ref_val1 (s := 2) (HF1.out 2 _ AN.out) rfl (below_set3' HB3.out (Nat.le_refl _)).drew (Nat.le_refl _) (by unfold maxLen; simp) (bytes_of_blk (HKD.out.grown (grown_set3 _ _ _ _ _) HDR.out)).drew)
          · obtain ⟨L, hL⟩ : ∃ L, L = leastN (xk : Int) := ⟨_, rfl⟩
            have ql := RefLeast_any (xk : Int) W3
            rw [← hL] at ql
            have QL := Lib.hid ql
            have HLL := Lib.hid hL
            clear hL ql
            have h1940 : ¬ (S < 19 ∨ 4096 < S) := by omega
            by_cases hL0 : L = 0
            · have AN := Lib.hid (HE.out.trans (ans3 h1940 (HLL.out ▸ hL0)))
              have r7 := res3 (.int .i64 1) (.int .i64 3) (.slice (some ⟨W3.heap.size, 0, none⟩) 1 1) (HKR3.out.below ((Below.refl _ _).alloc (Nat.le_refl _) (.cells #[.int .u8 (xk : Int)] 5)) HKR3.out.lt)
              have cR2 := cells3 (HKR3.out.below ((Below.refl _ _).alloc (Nat.le_refl _) (.cells #[.int .u8 (xk : Int)] 5)) HKR3.out.lt)
              have fR2 := free3 (HKR3.out.below ((Below.refl _ _).alloc (Nat.le_refl _) (.cells #[.int .u8 (xk : Int)] 5)) HKR3.out.lt)
              have HOB := Lib.hid (own_one W3 5 xk a18)
              have HRlt := Lib.hid HKR3.out.lt
              subst hL0
              clear h1940
              go_wp2_with (go_at_call 13; refine QL.out.mono ?_; rintro e w6' ⟨rfl, rfl⟩)
              go_region
              all_goals (go_wp2_with fail)
              exact bodyPost_ret (v := .tuple #[.int .i64 0, .slice none 0 0, .int .i64 0, .agg #[.int .i64 1, .int .i64 3, .slice (some ⟨W3.heap.size, 0, none⟩) 1 1]]) (by simp [results, Tryd.results15, go_sem, r7.1, r7.2.1, r7.2.2]) rfl
                (ref_val1 (s := 3) (HF1.out 3 _ AN.out) rfl (below_set3' (HB3.out.alloc HB3.out.size _) (Nat.le_refl _)).drew (Nat.le_refl _) (by unfold maxLen; simp) (Own.bytes (HOB.out.beside (grown_set3 _ _ _ _ _) HRlt.out)).drew)
            · have hl0 : ((L : Int) == 0) = false := by simpa using hL0
              by_cases h4 : S < L ∨ xk = 4 ∧ 19 < S
              · have AN := Lib.hid (HE.out.trans (ans4 h1940 (HLL.out ▸ hL0) (HLL.out ▸ h4)))
                have r7 := res3 (.int .i64 1) (.int .i64 2) (.slice (some ⟨D, 0, none⟩) 2 2) HKR3.out
                rcases (show S < L ∨ ¬ S < L ∧ xk = 4 ∧ 19 < S by omega) with hs | ⟨hs, hk4, hs4⟩
                · clear h4 h1940 hL0
                  go_wp2_with (go_at_call 13; refine QL.out.mono ?_; rintro e w6' ⟨rfl, rfl⟩)
                  go_region
                  all_goals (go_wp2_with fail)
                  exact bodyPost_ret (v := .tuple #[.int .i64 0, .slice none 0 0, .int .i64 0, .agg #[.int .i64 1, .int .i64 2, .slice (some ⟨D, 0, none⟩) 2 2]]) (by simp [results, Tryd.results15, go_sem, r7.1, r7.2.1, r7.2.2]) rfl
                    (ref_val1 (s := 2) (HF1.out 2 _ AN.out) rfl (below_set3' HB3.out (Nat.le_refl _)).drew (Nat.le_refl _) (by unfold maxLen; simp) (bytes_of_blk (HKD.out.grown (grown_set3 _ _ _ _ _) HDR.out)).drew)
                · have hb4 : ((xk : Int) == 4) = true := by simp; omega
                  clear h4 h1940 hL0 hk4
                  go_wp2_with (go_at_call 13; refine QL.out.mono ?_; rintro e w6' ⟨rfl, rfl⟩)
                  go_region
                  all_goals (go_wp2_with fail)
                  exact bodyPost_ret (v := .tuple #[.int .i64 0, .slice none 0 0, .int .i64 0, .agg #[.int .i64 1, .int .i64 2, .slice (some ⟨D, 0, none⟩) 2 2]]) (by simp [results, Tryd.results15, go_sem, r7.1, r7.2.1, r7.2.2]) rfl
                    (ref_val1 (s := 2) (HF1.out 2 _ AN.out) rfl (below_set3' HB3.out (Nat.le_refl _)).drew (Nat.le_refl _) (by unfold maxLen; simp) (bytes_of_blk (HKD.out.grown (grown_set3 _ _ _ _ _) HDR.out)).drew)
              · have AN := Lib.hid (HE.out.trans (ans5 h1940 (HLL.out ▸ hL0) (HLL.out ▸ h4)))
                have hs : ¬ S < L := by omega
                have HXW := Lib.hid (fun h => nextF_wait (l := l) (by have := HN.out; omega) AN.out h)
                have HXO := Lib.hid (fun h => nextF_ok (l := l) (by have := HN.out; omega) AN.out h)
                have cN := cells3 HKN3.out
                by_cases hk4 : xk = 4
                · have hb4 : ((xk : Int) == 4) = true := by simp; omega
                  have hs19 : ¬ 19 < S := by omega
                  clear h4 h1940 hL0 hk4
                  by_cases hsn : n < S
                  · exact absurd hsn (by omega)
                  · have hx := HXO.out (by rw [HS.out]; have := HN.out; omega)
                    rw [HKd.out, HS.out] at hx
                    have HX := Lib.hid hx
                    have r7 := res3 (.int .i64 0) (.int .i64 0) (.slice none 0 0) HKR3.out
                    have hB0 : At w B (some ⟨b, off, none⟩) l := fun _ => ⟨b, off, rfl, hbB, HC.out⟩
                    have HY := Lib.hid (((hB0.below (below_set3' (u := .int .i64 0) (v := .int .i64 0) (x := .slice none 0 0) HB3.out (Nat.le_refl _)).drew hBw).take S).drop (k := 19) (c := c) (by simp; have := HN.out; omega))
                    have HBL := Lib.hid (show S - 19 = ((l.take S).drop 19).length by simp; have := HN.out; omega)
                    have hS1 : (19 : Int) ≤ (S : Int) := by omega
                    have hS2 : (S : Int) ≤ (c : Int) := by omega
                    obtain ⟨T, hT⟩ : ∃ T, T = (l.take S).drop 19 := ⟨_, rfl⟩
                    rw [← hT] at HY HBL HX
                    clear HXW HXO hx hT hB0
                    by_cases hc : c = 19
                    · subst hc
                      obtain rfl : S = 19 := by omega
                      have hy := HY.out
                      first | rw [if_pos trivial] at hy | rw [if_pos rfl] at hy
                      have HY := Lib.hid hy
                      clear hy
                      go_wp2_with (go_at_call 13; refine QL.out.mono ?_; rintro e w6' ⟨rfl, rfl⟩)
                      go_region
                      all_goals (go_wp2_with fail)
                      exact bodyPost_ret (v := .tuple #[.int .i64 (xk : Int), .slice (some ⟨b, off, none⟩) 0 0, .int .i64 ((19 : Nat) : Int), .agg #[.int .i64 0, .int .i64 0, .slice none 0 0]]) (by simp [results, Tryd.results15, go_sem, r7.1, r7.2.1, r7.2.2]) rfl
                        (ref_val2 HX.out HBL.out (below_set3' HB3.out (Nat.le_refl _)).drew (by have := HBL.out; omega) (Nat.zero_le _) HY.out)
                    · have hy := HY.out
                      first | rw [if_neg hc] at hy | skip
                      have HY := Lib.hid hy
                      clear hy
                      go_wp2_with (go_at_call 13; refine QL.out.mono ?_; rintro e w6' ⟨rfl, rfl⟩)
                      go_region
                      all_goals (go_wp2_with fail)
                      exact bodyPost_ret (v := .tuple #[.int .i64 (xk : Int), .slice (some ⟨b, off + 19, none⟩) (S - 19) (c - 19), .int .i64 (S : Int), .agg #[.int .i64 0, .int .i64 0, .slice none 0 0]]) (by simp [results, Tryd.results15, go_sem, r7.1, r7.2.1, r7.2.2]) rfl
                        (ref_val2 HX.out HBL.out (below_set3' HB3.out (Nat.le_refl _)).drew (by have := HBL.out; omega) (by unfold maxLen at hcm ⊢; omega) HY.out)
                · have hb4 : ((xk : Int) == 4) = false := by simp; omega
                  clear h4 h1940 hL0 hk4
                  by_cases hsn : n < S
                  · have HX := Lib.hid (HXW.out (by rw [HS.out]; have := HN.out; omega))
                    have r7 := res3 (.int .i64 0) (.int .i64 0) (.slice none 0 0) HKR3.out
                    clear HXW HXO
                    go_wp2_with (go_at_call 13; refine QL.out.mono ?_; rintro e w6' ⟨rfl, rfl⟩)
                    go_region
                    all_goals (go_wp2_with fail)
                    exact bodyPost_ret (v := .tuple #[.int .i64 0, .slice none 0 0, .int .i64 0, .agg #[.int .i64 0, .int .i64 0, .slice none 0 0]]) (by simp [results, Tryd.results15, go_sem, r7.1, r7.2.1, r7.2.2]) rfl
                      (ref_val0 (below_set3' HB3.out (Nat.le_refl _)).drew HX.out)
                  · have hx := HXO.out (by rw [HS.out]; have := HN.out; omega)
                    rw [HKd.out, HS.out] at hx
                    have HX := Lib.hid hx
                    have r7 := res3 (.int .i64 0) (.int .i64 0) (.slice none 0 0) HKR3.out
                    have hB0 : At w B (some ⟨b, off, none⟩) l := fun _ => ⟨b, off, rfl, hbB, HC.out⟩
                    have HY := Lib.hid (((hB0.below (below_set3' (u := .int .i64 0) (v := .int .i64 0) (x := .slice none 0 0) HB3.out (Nat.le_refl _)).drew hBw).take S).drop (k := 19) (c := c) (by simp; have := HN.out; omega))
                    have HBL := Lib.hid (show S - 19 = ((l.take S).drop 19).length by simp; have := HN.out; omega)
                    have hS1 : (19 : Int) ≤ (S : Int) := by omega
                    have hS2 : (S : Int) ≤ (c : Int) := by omega
                    obtain ⟨T, hT⟩ : ∃ T, T = (l.take S).drop 19 := ⟨_, rfl⟩
                    rw [← hT] at HY HBL HX
                    clear HXW HXO hx hT hB0
                    by_cases hc : c = 19
                    · subst hc
                      obtain rfl : S = 19 := by omega
                      have hy := HY.out
                      first | rw [if_pos trivial] at hy | rw [if_pos rfl] at hy
                      have HY := Lib.hid hy
                      clear hy
                      go_wp2_with (go_at_call 13; refine QL.out.mono ?_; rintro e w6' ⟨rfl, rfl⟩)
                      go_region
                      all_goals (go_wp2_with fail)
                      exact bodyPost_ret (v := .tuple #[.int .i64 (xk : Int), .slice (some ⟨b, off, none⟩) 0 0, .int .i64 ((19 : Nat) : Int), .agg #[.int .i64 0, .int .i64 0, .slice none 0 0]]) (by simp [results, Tryd.results15, go_sem, r7.1, r7.2.1, r7.2.2]) rfl
                        (ref_val2 HX.out HBL.out (below_set3' HB3.out (Nat.le_refl _)).drew (by have := HBL.out; omega) (Nat.zero_le _) HY.out)
                    · have hy := HY.out
                      first | rw [if_neg hc] at hy | skip
                      have HY := Lib.hid hy
                      clear hy
                      go_wp2_with (go_at_call 13; refine QL.out.mono ?_; rintro e w6' ⟨rfl, rfl⟩)
                      go_region
                      all_goals (go_wp2_with fail)
                      exact bodyPost_ret (v := .tuple #[.int .i64 (xk : Int), .slice (some ⟨b, off + 19, none⟩) (S - 19) (c - 19), .int .i64 (S : Int), .agg #[.int .i64 0, .int .i64 0, .slice none 0 0]]) (by simp [results, Tryd.results15, go_sem, r7.1, r7.2.1, r7.2.2]) rfl
                        (ref_val2 HX.out HBL.out (below_set3' HB3.out (Nat.le_refl _)).drew (by have := HBL.out; omega) (by unfold maxLen at hcm ⊢; omega) HY.out)
theorem RefNext_any (B : Nat) (A : Option Addr) (c : Nat) (l : List UInt8) (w : World) (h : At w B A l) (hB : B ≤ w.heap.size) (h1 : l.length ≤ c) (h2 : c ≤ maxLen) (hm : l.length ≤ 1000000) :
    Calls Tryd.prog 15 #[.slice A l.length c] w (RefNextVal w B (nextF l)) := by
  by_cases hl : l.length < 19
  · exact refnext_short B A c l w hl
  · obtain ⟨b, off, rfl, hb, hc⟩ := h (by intro e; subst e; simp at hl)
    exact refnext_long w B b off hb hB c l (by omega) hc h1 h2 hl hm
end Go.Proofs.YtjhmkapafhgofaaDoor
