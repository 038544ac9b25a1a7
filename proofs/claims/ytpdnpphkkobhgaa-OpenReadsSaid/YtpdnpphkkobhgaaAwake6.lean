/-
  The example: the OPEN of a side of number 70000, put and read.
-/
import Derived.Test.YtpdnpphkkobhgaaRead6
import Derived.Test.YtpdnpphkkobhgaaPut6
import Derived.Test.YtpdnpphkkobhgaaCheck6
import Derived.Test.YtpdnpphkkobhgaaHold6
namespace Go.Proofs.Ytpdnpphkkobhgaa
set_option linter.unusedVariables false
set_option linter.unusedSimpArgs false
open Go.RowKit

def awL : List UInt8 := [4, 91, 160, 0, 90, 0, 0, 0, 1, 8, 2, 6, 65, 4, 0, 1, 17, 112]
theorem aw_put : putF6 4 23456 90 1 [(65, be32 70000)] = some awL := by kernel_rfl
theorem aw_read : readF awL = .ok ⟨4, 23456, 90, 1, [(65, be32 70000)]⟩ := by kernel_rfl
theorem aw_as : asN 23456 (wideL [(65, be32 70000)]) = 70000 := by kernel_rfl
theorem aw_hold : holdN 90 30 = 30 := by decide
theorem aw_a : mineA 70000 = 23456 := by decide
theorem aw_h : mineH 90 = 90 := by decide

set_option maxRecDepth 100000 in
set_option maxHeartbeats 6400000 in
theorem awake6_any (w : World) : Calls Try.prog 8 #[] w fun e w' => e = .returned (.bool true) ∧ Below w.heap.size w w' := by
  have QM := Lib.hid (Mine_any 70000 1 0 90 w (by decide) (by decide))
  go_enter Try.func8, Try.ntmps8
  go_wp2_with fail
  refine QM.out.mono ?_
  rintro e w1 ⟨hb1, g, A, c, rfl, hcp, h1, h2⟩
  rw [aw_a, aw_h]
  have hb1a := (Below.refl w1.heap.size w1).alloc (Nat.le_refl _) (.cells #[.int .i64 4, .int .i64 23456, .int .i64 90, .int .u32 1, .slice (some ⟨g, 0, none⟩) 1 1] 25)
  have QP := Lib.hid (Put6_any 4 23456 90 1 (some ⟨g, 0, none⟩) 1 [⟨65, A, c, be32 70000⟩] _ ((hcp.below hb1a (Nat.le_refl _)).lift hb1a.size) (by simp) (fun s hs => by rw [List.mem_singleton.1 hs]; exact ⟨h1, h2⟩) (fun s hs => by rw [List.mem_singleton.1 hs]; exact (show (be32 70000).length ≤ 1000000 by decide)) (by decide) (by decide) (by decide))
  have K1 := Lib.hid (Blk.new w1 25 [.int .i64 4, .int .i64 23456, .int .i64 90, .int .u32 1, .slice (some ⟨g, 0, none⟩) 1 1])
  have B1 := Lib.hid (hb1.trans (hb1a.mono hb1.size))
  clear hb1 hb1a hcp h1 h2 QM
  go_wp2_with fail
  refine QP.out.mono ?_
  rintro e w2 ⟨hb2, ⟨hno, rfl⟩ | ⟨A2, c2, l2, hl2, rfl, h1, h2, ho2⟩⟩
  · rw [show List.map Cp.abs [⟨65, A, c, be32 70000⟩] = [(65, be32 70000)] from rfl, aw_put] at hno
    cases hno
  · rw [show List.map Cp.abs [⟨65, A, c, be32 70000⟩] = [(65, be32 70000)] from rfl, aw_put] at hl2
    obtain rfl : awL = l2 := Option.some.inj hl2
    have B2 := Lib.hid (B1.out.trans (hb2.mono B1.out.size))
    have K2 := K1.out.below hb2 K1.out.lt
    have QR := Lib.hid (Read6_any A2 awL.length c2 awL rfl w2 ho2.bytes h1 h2 (by decide))
    have KK2 := Lib.hid K2
    clear hb2 hl2 h1 h2 ho2 K2 QP
    go_wp2_with fail
    refine QR.out.mono ?_
    rintro e w3 ⟨hb3, ⟨u, hu, rfl⟩ | ⟨o, A3, c3, M, ho, hcM, rfl, hcp, h1, h2, hcs⟩⟩
    · rw [aw_read] at hu; cases hu
    · rw [aw_read] at ho
      obtain rfl := Except.ok.inj ho
      dsimp only at hcM
      unfold retR
      have B3 := Lib.hid (B2.out.trans (hb3.mono B2.out.size))
      have K3 := KK2.out.below hb3 KK2.out.lt
      have hbO := (Below.refl w3.heap.size w3).alloc (Nat.le_refl _) (.cells #[.int .i64 4, .int .i64 23456, .int .i64 90, .int .u32 1, .slice A3 M.length c3] 25)
      have hbF := hbO.alloc (by simp) (.cells #[.int .i64 0, .int .i64 0, .slice none 0 0] 36)
      have K3' := K3.below hbF K3.lt
      have c31 : World.cell? _ ⟨w1.heap.size, 1, none⟩ = some _ := K3'.cell 1
      have QA := Lib.hid (AS_any 4 23456 90 1 A3 c3 M _ ((hcp.below hbF (Nat.le_refl _)).lift hbF.size) (by have := congrArg List.length hcM; simp at this; omega) hcs)
      rw [← hcM, aw_as] at QA
      have BF := Lib.hid (B3.out.trans (hbF.mono B3.out.size))
      clear hb3 hcp h1 h2 hcs hcM K3 hbO hbF K3' QR
      go_wp2_with fail
      refine QA.out.mono ?_
      rintro e w4 ⟨rfl, hb4⟩
      go_wp2_with fail
      refine (Hold_any 90 30 w4).mono ?_
      rintro e wx ⟨rfl, rfl⟩
      rw [aw_hold]
      go_wp2_with fail
      go_ret
      exact ⟨rfl, BF.out.trans (hb4.mono BF.out.size)⟩
end Go.Proofs.Ytpdnpphkkobhgaa
