/-
  P6.2: what any bytes say, or which fault they have: the walk.
-/
import Derived.Test.YtpdnpphkkobhgaaAwake6
import Derived.Test.YtpdnpphkkobhgaaRefRead6
import Derived.Test.YtpdnpphkkobhgaaRefSame6
import Derived.Test.YtpdnpphkkobhgaaSameF7
import Derived.Test.YtpdnpphkkobhgaaSame
namespace Go.Proofs.Ytpdnpphkkobhgaa.OpenReads
set_option linter.unusedVariables false
open Go.RowKit

theorem param_len : ∀ (n : Nat) (l : List UInt8) (M : Caps), paramP n l = .ok M → M.length ≤ l.length
  | 0, l, M, h => by cases h
  | n + 1, l, M, h => by
    rw [paramP_succ] at h
    split at h
    · cases h; simp
    · split at h
      · cases h
      · rename_i hb
        split at h
        · cases h
        · split at h
          · cases h
          · rename_i N hc
            cases hp : paramP n (nextP l false).rest with
            | error e => rw [hp] at h; cases h
            | ok M' =>
              rw [hp] at h
              have h1 := param_len n _ M' hp
              have h2 := caps_len _ _ N hc
              have h3 := next_sum (l := l) (by simpa using hb)
              obtain rfl : N ++ M' = M := by injection h
              rw [List.length_append]
              omega
theorem read_len {l : List UInt8} {o : Op} (h : readF l = .ok o) : o.caps.length ≤ l.length := by
  unfold readF at h
  split at h
  · cases h
  · split at h
    · cases h
    · rename_i M hp
      have := param_len _ _ M hp
      cases h
      rw [List.length_drop] at this
      show M.length ≤ l.length
      omega
/-- What is told of bytes: an OPEN's fields, a fault's. -/
structure Told where
  a : Int
  b : Int
  c : Int
  d : Int
  f : Int
  u : Int
  caps : Caps
def told : Except Nat Op → Told
  | .error u => ⟨0, 0, 0, 0, 2, u, []⟩
  | .ok o => ⟨o.ver, o.sys, o.hold, o.id, 0, 0, o.caps⟩
theorem told_of {w w' : World} {l : List UInt8} {e : Ending} (hl : l.length ≤ 1000) (h : RetRead w (readF l) e w') :
    Below w.heap.size w w' ∧ ∃ A c M, e = .returned (retR (told (readF l)).a (told (readF l)).b (told (readF l)).c (told (readF l)).d (.slice A (List.length (α := Cp) M) c) (told (readF l)).f (told (readF l)).u) ∧ M.map Cp.abs = (told (readF l)).caps ∧ CpIn w' w'.heap.size A M ∧ M.length ≤ 1000 := by
  obtain ⟨hb, ⟨u, hu, rfl⟩ | ⟨o, A, c, M, ho, hcM, rfl, hcp, _, _, _⟩⟩ := h
  · refine ⟨hb, none, 0, [], ?_, ?_, CpIn.nil _ _ _, by simp⟩
    · rw [hu]; rfl
    · rw [hu]; rfl
  · have h9 := read_len ho
    rw [hcM, List.length_map] at h9
    refine ⟨hb, A, c, M, ?_, ?_, hcp, by omega⟩
    · rw [ho]; rfl
    · rw [ho]; exact hcM.symm

set_option maxRecDepth 100000 in
set_option maxHeartbeats 6400000 in
theorem walk (A : Option Addr) (c : Nat) (l : List UInt8) (w : World) (h1 : l.length ≤ c) (h2 : c ≤ maxLen) (h : Bytes w A l) :
    Calls Try.prog 4 #[.slice A l.length c] w fun e w' => e = .returned (.bool true) ∧ Below w.heap.size w w' := by
  by_cases hl : 1000 < l.length
  · have hlI : (1000 : Int) < (l.length : Int) := by omega
    go_enter Try.func4, Try.ntmps4
    go_wp2_with fail
    refine (awake6_any _).mono ?_
    rintro e w3 ⟨rfl, hb3⟩
    go_wp2_with fail
    go_ret
    exact ⟨rfl, hb3⟩
  · have hlI : ¬ (1000 : Int) < (l.length : Int) := by omega
    have hll : l.length ≤ 1000 := by omega
    have QA := Lib.hid ((Read6_any A l.length c l rfl w h h1 h2 (by omega)).mono fun e w' => told_of hll)
    have QB := Lib.hid (fun W (hb : Bytes W A l) => (RefRead6_any A c l W hb h1 h2 (by omega)).mono fun e w' => told_of hll)
    have HY := Lib.hid h
    obtain ⟨X, hX⟩ : ∃ X, X = told (readF l) := ⟨_, rfl⟩
    rw [← hX] at QA QB
    obtain ⟨ver, sys, hold, id, fc, fu, cs⟩ := X
    dsimp only at QA QB
    have hsame : (fc == fc && (fu == fu && ([] : List UInt8) == [])) = true := by simp
    have HSM := Lib.hid hsame
    clear hX h h1 h2 hl hsame
    go_enter Try.func4, Try.ntmps4
    go_wp2_with fail
    refine QA.out.mono ?_
    rintro e w1 ⟨hb1, A1, c1, M1, rfl, hM1, hcp1, hn1⟩
    unfold retR
    have hbO := (Below.refl w1.heap.size w1).alloc (Nat.le_refl _) (.cells #[.int .i64 ver, .int .i64 sys, .int .i64 hold, .int .u32 id, .slice A1 M1.length c1] 25)
    have hbF := hbO.alloc (by simp) (.cells #[.int .i64 fc, .int .i64 fu, .slice none 0 0] 36)
    have kO := (Blk.new w1 25 [.int .i64 ver, .int .i64 sys, .int .i64 hold, .int .u32 id, .slice A1 M1.length c1]).below ((Below.refl _ _).alloc (Nat.le_refl _) (.cells #[.int .i64 fc, .int .i64 fu, .slice none 0 0] 36)) (by simp)
    have kF := Blk.new (w1.alloc (.cells #[.int .i64 ver, .int .i64 sys, .int .i64 hold, .int .u32 id, .slice A1 M1.length c1] 25)) 36 [.int .i64 fc, .int .i64 fu, .slice none 0 0]
    rw [show (w1.alloc (.cells #[.int .i64 ver, .int .i64 sys, .int .i64 hold, .int .u32 id, .slice A1 M1.length c1] 25)).heap.size = w1.heap.size + 1 by simp] at kF
    obtain ⟨W2, hW2⟩ : ∃ W2, W2 = (w1.alloc (.cells #[.int .i64 ver, .int .i64 sys, .int .i64 hold, .int .u32 id, .slice A1 M1.length c1] 25)).alloc (.cells #[.int .i64 fc, .int .i64 fu, .slice none 0 0] 36) := ⟨_, rfl⟩
    rw [← hW2] at hbF kO kF
    have HB2 := Lib.hid (hb1.trans (hbF.mono hb1.size))
    have HP1 := Lib.hid ((hcp1.below hbF (Nat.le_refl _)).lift hbF.size)
    have HM1 := Lib.hid hM1; have HN1 := Lib.hid hn1; have HKO := Lib.hid kO; have HKF := Lib.hid kF
    have QB2 := Lib.hid (QB.out W2 (HY.out.below (hb1.trans (hbF.mono hb1.size))))
    have HW2 := Lib.hid hW2
    clear hbO hbF kO kF hW2 hb1 hM1 hcp1 hn1 QA QB
    go_wp2_with fail
    rw [← HW2.out]
    refine QB2.out.mono ?_
    rintro e w3 ⟨hb3, A3, c3, M3, rfl, hM3, hcp3, hn3⟩
    unfold retR
    have hbO := (Below.refl w3.heap.size w3).alloc (Nat.le_refl _) (.cells #[.int .i64 ver, .int .i64 sys, .int .i64 hold, .int .u32 id, .slice A3 M3.length c3] 25)
    have hbF := hbO.alloc (by simp) (.cells #[.int .i64 fc, .int .i64 fu, .slice none 0 0] 36)
    have hbw := hb3.trans (hbF.mono hb3.size)
    have kO := HKO.out.below hbw HKO.out.lt
    have kF := HKF.out.below hbw HKF.out.lt
    have o5 := cells5 kO
    have QS := Lib.hid (RefSameEq_any ver sys hold id A1 A3 c1 c3 M1 M3 _ ((HP1.out.below hbw (Nat.le_refl _)).lift hbw.size) ((hcp3.below hbF (Nat.le_refl _)).lift hbF.size) (HM1.out.trans hM3.symm) (by have := HN1.out; omega))
    have kF3 := Blk.new (w3.alloc (.cells #[.int .i64 ver, .int .i64 sys, .int .i64 hold, .int .u32 id, .slice A3 M3.length c3] 25)) 36 [.int .i64 fc, .int .i64 fu, .slice none 0 0]
    rw [show (w3.alloc (.cells #[.int .i64 ver, .int .i64 sys, .int .i64 hold, .int .u32 id, .slice A3 M3.length c3] 25)).heap.size = w3.heap.size + 1 by simp] at kF3
    have HKF3 := Lib.hid kF3; have HKFF := Lib.hid kF
    have HBW := Lib.hid (HB2.out.trans (hbw.mono HB2.out.size))
    clear hbO hbF hbw kO kF kF3 hb3 hM3 hcp3 hn3 QB2
    go_wp2_with fail
    refine QS.out.mono ?_
    rintro e w5 ⟨rfl, hb5⟩
    have k5 := HKFF.out.below hb5 HKFF.out.lt
    have k6 := HKF3.out.below hb5 HKF3.out.lt
    have c5 := cells3 k5
    have c6 := cells3 k6
    have QF := Lib.hid (SameFault_any fc fu fc fu none none 0 0 [] [] w5 (Bytes.nil _ _) (Bytes.nil _ _))
    have HB5 := Lib.hid (HBW.out.trans (hb5.mono HBW.out.size))
    clear hb5 k5 k6 o5
    go_wp2_with fail
    refine QF.out.mono ?_
    rintro e w6 ⟨rfl, hb6⟩
    rw [HSM.out]
    have HB6 := Lib.hid (HB5.out.trans (hb6.mono HB5.out.size))
    clear hb6
    go_wp2_with fail
    refine (awake6_any _).mono ?_
    rintro e w7 ⟨rfl, hb7⟩
    go_wp2_with fail
    go_ret
    exact ⟨rfl, HB6.out.trans (hb7.mono HB6.out.size)⟩
end Go.Proofs.Ytpdnpphkkobhgaa.OpenReads
