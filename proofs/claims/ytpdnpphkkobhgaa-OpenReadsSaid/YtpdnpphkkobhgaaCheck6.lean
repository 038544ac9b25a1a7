/-
  The number that an OPEN says; what is wrong with an OPEN: by the code.
-/
import Derived.Test.YtpdnpphkkobhgaaWide6
import Derived.Test.YtpdnpphkkobhgaaFault6
namespace Go.Proofs.Ytpdnpphkkobhgaa
set_option linter.unusedVariables false
set_option linter.unusedSimpArgs false
open Go.RowKit

/-- The number that an OPEN says. -/
def asN (sys : Int) (o : Option Nat) : Int := match o with
  | some n => (n : Int)
  | none => IntKind.u32.wrap sys
set_option maxHeartbeats 1600000 in
theorem AS_any (ver sys hold id : Int) (A : Option Addr) (c : Nat) (L : List Cp) (w : World) (h : CpIn w w.heap.size A L) (hl : L.length ≤ 1152921504606846976) (hr : ∀ s ∈ L, s.data.length ≤ s.cap ∧ s.cap ≤ maxLen) :
    Calls Try.prog 18 #[.agg #[.int .i64 ver, .int .i64 sys, .int .i64 hold, .int .u32 id, .slice A L.length c]] w fun e w' => e = .returned (.int .u32 (asN sys (wideL (L.map Cp.abs)))) ∧ Below w.heap.size w w' := by
  have hb0 := (Below.refl w.heap.size w).alloc (Nat.le_refl _) (.cells #[.int .i64 ver, .int .i64 sys, .int .i64 hold, .int .u32 id, .slice A L.length c] 25)
  have kO := Blk.new w 25 [.int .i64 ver, .int .i64 sys, .int .i64 hold, .int .u32 id, .slice A L.length c]
  have k0 : World.cell? _ ⟨w.heap.size, 0, none⟩ = some _ := kO.cell 0
  have k1 : World.cell? _ ⟨w.heap.size, 1, none⟩ = some _ := kO.cell 1
  have k2 : World.cell? _ ⟨w.heap.size, 2, none⟩ = some _ := kO.cell 2
  have k3 : World.cell? _ ⟨w.heap.size, 3, none⟩ = some _ := kO.cell 3
  have k4 : World.cell? _ ⟨w.heap.size, 4, none⟩ = some _ := kO.cell 4
  have q := Wide_any ver sys hold id A c L _ ((h.below hb0 (Nat.le_refl _)).lift hb0.size) hl hr
  obtain ⟨o, ho⟩ : ∃ o, o = wideL (L.map Cp.abs) := ⟨_, rfl⟩
  rw [← ho] at q ⊢
  have Q := Lib.hid q
  have HB0 := Lib.hid hb0; have HO := Lib.hid kO
  clear h hr hb0 kO ho q
  cases o with
  | some n =>
    unfold wideV at Q
    dsimp only [Option.getD, Option.isSome] at Q
    go_enter Try.func18, Try.ntmps18
    go_wp2_with fail
    refine Q.out.mono ?_
    rintro e w2 ⟨rfl, hb2⟩
    have HB2 := Lib.hid (HB0.out.trans (hb2.mono HB0.out.size))
    clear hb2 Q
    go_wp2_with fail
    go_ret
    exact ⟨rfl, HB2.out⟩
  | none =>
    unfold wideV at Q
    dsimp only [Option.getD, Option.isSome] at Q
    go_enter Try.func18, Try.ntmps18
    go_wp2_with fail
    refine Q.out.mono ?_
    rintro e w2 ⟨rfl, hb2⟩
    have k1b : World.cell? _ ⟨w.heap.size, 1, none⟩ = some _ := (HO.out.below hb2 HO.out.lt).cell 1
    have HB2 := Lib.hid (HB0.out.trans (hb2.mono HB0.out.size))
    clear hb2 Q
    go_wp2_with fail
    go_ret
    exact ⟨rfl, HB2.out⟩
end Go.Proofs.Ytpdnpphkkobhgaa
