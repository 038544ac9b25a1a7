/-
  The example that each statement of this layer asks for.
-/
import Derived.Test.YtpjhidicgclmbaaCmpR15
namespace Go.Proofs.Ytpjhidicgclmbaa
set_option linter.unusedVariables false
set_option linter.unusedSimpArgs false
open Go.RowKit

/-- The example's two candidates. -/
def exA (g0 g1 : Nat) : Cv := ⟨1, false, 0, 0, 0, 0, some ⟨g1, 0, none⟩, 1, [⟨2, some ⟨g0, 0, none⟩, 3, [1, 2, 3]⟩], 0, -1, 200, false, false, 0, 0, none, 0, 0, none, 0, 0⟩
def exB : Cv := ⟨0, false, 0, 0, 0, 0, none, 0, [], 0, -1, -1, false, false, 0, 0, none, 0, 0, none, 0, 0⟩
theorem ex_pair (g0 g1 : Nat) : pairZ (exA g0 g1) exB = (-1, 1) := by rfl
theorem ex_best (g0 g1 : Nat) : bestZ [exB, exA g0 g1] = 1 := by
  show amongZ (keyL [exB, exA g0 g1]) (List.range 2) = 1
  rcases among_best (K := keyL [exB, exA g0 g1]) (l := List.range 2) (fun i => rfl) List.pairwise_lt_range with ⟨h, _⟩ | ⟨i, hi, h1, h2⟩
  · cases h
  · have hi2 := List.mem_range.1 hi
    have h01 : i = 0 ∨ i = 1 := by omega
    rcases h01 with rfl | rfl
    · exfalso
      refine h2.1.2.1 (keyL [exB, exA g0 g1] 1) (List.mem_map_of_mem (List.mem_range.2 (by decide))) (.inl ?_)
      show (-200 : Int) < -100
      decide
    · exact h1
theorem ex_none : bestZ [] = -1 := by rfl
theorem ex_in {w : World} {g0 g1 : Nat} (h0 : Blk w g0 27 [.int .u32 1, .int .u32 2, .int .u32 3]) (h1 : Blk w g1 45 [.int .i64 2, .slice (some ⟨g0, 0, none⟩) 3 3]) : (exA g0 g1).In w w.heap.size := by
  refine ⟨fun _ => ⟨g1, 0, rfl, h1.lt, fun j s hj => ?_⟩, by simp [exA, maxLen], by simp [exA], by simp [exA], by simp [exA], by simp [exA], by simp [exA], by simp [exA], by simp [exA]⟩
  have hj0 : j = 0 := by
    have := (List.getElem?_eq_some_iff.1 hj).1
    simp [exA] at this; omega
  subst hj0
  have : s = ⟨2, some ⟨g0, 0, none⟩, 3, [1, 2, 3]⟩ := by simpa [exA] using hj.symm
  subst this
  refine ⟨h1.cell 0, h1.cell 1, by simp, by simp [maxLen], fun _ => ⟨g0, 0, rfl, h0.lt, fun k hk => ?_⟩, fun x hx => ?_, by simp⟩
  · have : k = 0 ∨ k = 1 ∨ k = 2 := by simp at hk; omega
    rcases this with rfl | rfl | rfl
    · exact h0.cell 0
    · exact h0.cell 1
    · exact h0.cell 2
  · simp at hx; omega
theorem exB_in (w : World) : exB.In w w.heap.size :=
  ⟨Segs.nil _ _ _, by simp [exB, maxLen], by simp [exB], by simp [exB], by simp [exB], by simp [exB], by simp [exB], by simp [exB], by simp [exB]⟩

theorem okA (g0 g1 : Nat) : CntOk (exA g0 g1) := by simp [CntOk, exA, totN]
theorem okB : CntOk exB := by simp [CntOk, exB, totN]
theorem exCompare (W : World) (g0 g1 : Nat) (h : (exA g0 g1).In W W.heap.size) :
    Calls Try.prog 12 #[(exA g0 g1).agg, exB.agg] W fun e w' => e = .returned (.tuple #[.int .i64 (-1), .int .i64 1]) ∧ Below W.heap.size W w' :=
  (Compare_any (exA g0 g1) exB W h (exB_in W) (okA g0 g1) okB).mono fun e w' q => ⟨by rw [q.1, ex_pair]; rfl, q.2⟩
theorem exBest (W : World) (g0 g1 g : Nat) (h : CandsIn W W.heap.size (some ⟨g, 0, none⟩) [exB, exA g0 g1]) :
    Calls Try.prog 10 #[.slice (some ⟨g, 0, none⟩) 2 2] W fun e w' => e = .returned (.int .i64 1) ∧ Below W.heap.size W w' :=
  (Best_any (some ⟨g, 0, none⟩) 2 [exB, exA g0 g1] W h (fun s hs => by
    rcases List.mem_cons.1 hs with rfl | hs
    · exact okB
    · rw [List.mem_singleton.1 hs]; exact okA g0 g1) (by simp)).mono fun e w' q => ⟨by rw [q.1, ex_best], q.2⟩
theorem exNone (W : World) : Calls Try.prog 10 #[.slice none 0 0] W fun e w' => e = .returned (.int .i64 (-1)) ∧ Below W.heap.size W w' :=
  (Best_any none 0 [] W (CandsIn.nil _ _ _) (fun s hs => by cases hs) (by simp)).mono fun e w' q => ⟨by rw [q.1, ex_none], q.2⟩
/-- The world behind the example's first two statements. -/
structure ExW (w w4 : World) : Prop where
  is : w4 = (((w.alloc (.cells #[.int .u32 1, .int .u32 2, .int .u32 3] 27)).alloc (.cells #[.int .i64 2, .slice (some ⟨w.heap.size, 0, none⟩) 3 3] 45)).alloc (.cells #[.int .i64 1, .bool false, .int .u32 0, .int .u32 0, .int .u32 0, .int .i64 0, .slice (some ⟨w.heap.size + 1, 0, none⟩) 1 1, .int .u32 0, .int .i64 (-1), .int .i64 200, .bool false, .bool false, .int .u32 0, .int .u32 0, .slice none 0 0, .slice none 0 0] 34)).alloc (.cells #[.int .i64 0, .bool false, .int .u32 0, .int .u32 0, .int .u32 0, .int .i64 0, .slice none 0 0, .int .u32 0, .int .i64 (-1), .int .i64 (-1), .bool false, .bool false, .int .u32 0, .int .u32 0, .slice none 0 0, .slice none 0 0] 34)
  bel : Below w.heap.size w w4
  a : Blk w4 (w.heap.size + 1 + 1) 34 [.int .i64 1, .bool false, .int .u32 0, .int .u32 0, .int .u32 0, .int .i64 0, .slice (some ⟨w.heap.size + 1, 0, none⟩) 1 1, .int .u32 0, .int .i64 (-1), .int .i64 200, .bool false, .bool false, .int .u32 0, .int .u32 0, .slice none 0 0, .slice none 0 0]
  b : Blk w4 (w.heap.size + 1 + 1 + 1) 34 [.int .i64 0, .bool false, .int .u32 0, .int .u32 0, .int .u32 0, .int .i64 0, .slice none 0 0, .int .u32 0, .int .i64 (-1), .int .i64 (-1), .bool false, .bool false, .int .u32 0, .int .u32 0, .slice none 0 0, .slice none 0 0]
  ex : ∀ W, Below w4.heap.size w4 W → (exA w.heap.size (w.heap.size + 1)).In W W.heap.size
theorem exW (w : World) : ∃ w4, ExW w w4 := by
  have e1 : (w.alloc (.cells #[.int .u32 1, .int .u32 2, .int .u32 3] 27)).heap.size = w.heap.size + 1 := by simp
  have k0 := Blk.new w 27 [.int .u32 1, .int .u32 2, .int .u32 3]
  have k1 := Blk.new (w.alloc (.cells #[.int .u32 1, .int .u32 2, .int .u32 3] 27)) 45 [.int .i64 2, .slice (some ⟨w.heap.size, 0, none⟩) 3 3]
  rw [e1] at k1
  obtain ⟨w2, hw2⟩ : ∃ W, W = (w.alloc (.cells #[.int .u32 1, .int .u32 2, .int .u32 3] 27)).alloc (.cells #[.int .i64 2, .slice (some ⟨w.heap.size, 0, none⟩) 3 3] 45) := ⟨_, rfl⟩
  have hz2 : w2.heap.size = w.heap.size + 1 + 1 := by rw [hw2]; simp
  have k0' : Blk w2 w.heap.size 27 [.int .u32 1, .int .u32 2, .int .u32 3] := by rw [hw2]; exact k0.below ((Below.refl _ _).alloc (Nat.le_refl _) _) (by simp)
  have k1' : Blk w2 (w.heap.size + 1) 45 [.int .i64 2, .slice (some ⟨w.heap.size, 0, none⟩) 3 3] := by rw [hw2]; exact k1
  have hb2 : Below w.heap.size w w2 := by rw [hw2]; exact ((Below.refl _ _).alloc (Nat.le_refl _) _).alloc (by simp) _
  have hb4 := ((Below.refl w2.heap.size w2).alloc (Nat.le_refl _) (.cells #[.int .i64 1, .bool false, .int .u32 0, .int .u32 0, .int .u32 0, .int .i64 0, .slice (some ⟨w.heap.size + 1, 0, none⟩) 1 1, .int .u32 0, .int .i64 (-1), .int .i64 200, .bool false, .bool false, .int .u32 0, .int .u32 0, .slice none 0 0, .slice none 0 0] 34)).alloc (by simp) (.cells #[.int .i64 0, .bool false, .int .u32 0, .int .u32 0, .int .u32 0, .int .i64 0, .slice none 0 0, .int .u32 0, .int .i64 (-1), .int .i64 (-1), .bool false, .bool false, .int .u32 0, .int .u32 0, .slice none 0 0, .slice none 0 0] 34)
  have kA := (Blk.new w2 34 [.int .i64 1, .bool false, .int .u32 0, .int .u32 0, .int .u32 0, .int .i64 0, .slice (some ⟨w.heap.size + 1, 0, none⟩) 1 1, .int .u32 0, .int .i64 (-1), .int .i64 200, .bool false, .bool false, .int .u32 0, .int .u32 0, .slice none 0 0, .slice none 0 0]).below ((Below.refl _ (w2.alloc (.cells #[.int .i64 1, .bool false, .int .u32 0, .int .u32 0, .int .u32 0, .int .i64 0, .slice (some ⟨w.heap.size + 1, 0, none⟩) 1 1, .int .u32 0, .int .i64 (-1), .int .i64 200, .bool false, .bool false, .int .u32 0, .int .u32 0, .slice none 0 0, .slice none 0 0] 34))).alloc (Nat.le_refl _) (.cells #[.int .i64 0, .bool false, .int .u32 0, .int .u32 0, .int .u32 0, .int .i64 0, .slice none 0 0, .int .u32 0, .int .i64 (-1), .int .i64 (-1), .bool false, .bool false, .int .u32 0, .int .u32 0, .slice none 0 0, .slice none 0 0] 34)) (by simp)
  have kB := Blk.new (w2.alloc (.cells #[.int .i64 1, .bool false, .int .u32 0, .int .u32 0, .int .u32 0, .int .i64 0, .slice (some ⟨w.heap.size + 1, 0, none⟩) 1 1, .int .u32 0, .int .i64 (-1), .int .i64 200, .bool false, .bool false, .int .u32 0, .int .u32 0, .slice none 0 0, .slice none 0 0] 34)) 34 [.int .i64 0, .bool false, .int .u32 0, .int .u32 0, .int .u32 0, .int .i64 0, .slice none 0 0, .int .u32 0, .int .i64 (-1), .int .i64 (-1), .bool false, .bool false, .int .u32 0, .int .u32 0, .slice none 0 0, .slice none 0 0]
  have e3 : (w2.alloc (.cells #[.int .i64 1, .bool false, .int .u32 0, .int .u32 0, .int .u32 0, .int .i64 0, .slice (some ⟨w.heap.size + 1, 0, none⟩) 1 1, .int .u32 0, .int .i64 (-1), .int .i64 200, .bool false, .bool false, .int .u32 0, .int .u32 0, .slice none 0 0, .slice none 0 0] 34)).heap.size = w.heap.size + 1 + 1 + 1 := by simp [hz2]
  rw [e3] at kB
  rw [hz2] at kA
  obtain ⟨w4, hw4⟩ : ∃ W, W = (w2.alloc (.cells #[.int .i64 1, .bool false, .int .u32 0, .int .u32 0, .int .u32 0, .int .i64 0, .slice (some ⟨w.heap.size + 1, 0, none⟩) 1 1, .int .u32 0, .int .i64 (-1), .int .i64 200, .bool false, .bool false, .int .u32 0, .int .u32 0, .slice none 0 0, .slice none 0 0] 34)).alloc (.cells #[.int .i64 0, .bool false, .int .u32 0, .int .u32 0, .int .u32 0, .int .i64 0, .slice none 0 0, .int .u32 0, .int .i64 (-1), .int .i64 (-1), .bool false, .bool false, .int .u32 0, .int .u32 0, .slice none 0 0, .slice none 0 0] 34) := ⟨_, rfl⟩
  rw [← hw4] at kA kB hb4
  refine ⟨w4, by rw [hw4, hw2], hb2.trans (hb4.mono hb2.size), kA, kB, fun W h => ?_⟩
  have h' := hb4.trans (h.mono hb4.size)
  exact ex_in (k0'.below h' k0'.lt) (k1'.below h' k1'.lt)

set_option maxRecDepth 100000 in
set_option maxHeartbeats 6400000 in
theorem awake15_any (w : World) :
    Calls Try.prog 9 #[] w fun e w' => e = .returned (.bool true) ∧ Below w.heap.size w w' := by
  obtain ⟨w4, hx⟩ := exW w
  have QB := Lib.hid (fun (W : World) (g : Nat) (h : CandsIn W W.heap.size (some ⟨g, 0, none⟩) [exB, exA w.heap.size (w.heap.size + 1)]) => exBest W w.heap.size (w.heap.size + 1) g h)
  have QN := Lib.hid (fun (W : World) => exNone W)
  have QC := Lib.hid (fun (W : World) (h : Below w4.heap.size w4 W) => exCompare W w.heap.size (w.heap.size + 1) (hx.ex W h))
  have HCN := Lib.hid (fun (W : World) (h : Below w4.heap.size w4 W) => cands_new W 34 [exB, exA w.heap.size (w.heap.size + 1)] (fun s hs => by
    rcases List.mem_cons.1 hs with rfl | hs
    · exact exB_in W
    · rw [List.mem_singleton.1 hs]; exact hx.ex W h))
  have HW4 := Lib.hid hx.is
  have HB4 := Lib.hid hx.bel
  have hA : CvAt w4 (w.heap.size + 1 + 1) 0 (exA w.heap.size (w.heap.size + 1)) := cv_blk (T := 34) hx.a
  have hB : CvAt w4 (w.heap.size + 1 + 1 + 1) 0 exB := cv_blk (T := 34) hx.b
  have HZ := Lib.hid (And.intro hx.a.lt hx.b.lt)
  have HAB := Lib.hid (And.intro hA hB)
  obtain ⟨cA, hcA⟩ : ∃ c, c = exA w.heap.size (w.heap.size + 1) := ⟨_, rfl⟩
  obtain ⟨cB, hcB⟩ : ∃ c, c = exB := ⟨_, rfl⟩
  rw [← hcA, ← hcB] at QB QC HCN HAB
  clear hx hA hB hcA hcB
  go_enter Try.func9, Try.ntmps9
  go_upto_region 2 with (fail)
  go_cut [1, 2] (fun u v wc => u = .pointer (some ⟨w.heap.size + 1 + 1, 0, none⟩) ∧ v = .pointer (some ⟨w.heap.size + 1 + 1 + 1, 0, none⟩) ∧ wc = w4)
  case first =>
    go_wp2_with fail
    go_meet
    case rel => exact ⟨rfl, rfl, HW4.out.symm⟩
  case rest =>
    obtain ⟨rfl, rfl, hwc⟩ := hcut
    obtain rfl : w4 = wc := hwc.symm
    clear HW4
    go_wp2_with (first
      | (refine wpList_loadC _ rfl (.tmp 1) rfl (w.heap.size + 1 + 1) 0 cA rfl HAB.out.1 ?_)
      | (refine wpList_loadC _ rfl (.tmp 2) rfl (w.heap.size + 1 + 1 + 1) 0 cB rfl HAB.out.2 ?_))
    refine (QC.out w4 (Below.refl _ _)).mono ?_
    rintro e w5 ⟨rfl, hb5⟩
    have HB5 := Lib.hid (HB4.out.trans (hb5.mono HB4.out.size))
    have HC5 := Lib.hid (HCN.out w5 hb5)
    have HA5 := Lib.hid (And.intro (HAB.out.1.below hb5 HZ.out.1) (HAB.out.2.below hb5 HZ.out.2))
    clear hb5 HB4 HCN QC HAB HZ
    go_wp2_with (first
      | (refine wpList_loadC _ rfl (.tmp 1) rfl (w.heap.size + 1 + 1) 0 cA rfl HA5.out.1 ?_)
      | (refine wpList_loadC _ rfl (.tmp 2) rfl (w.heap.size + 1 + 1 + 1) 0 cB rfl HA5.out.2 ?_)
      | (refine wpList_build2C _ rfl (.tmp 18) (.tmp 19) rfl cB cA rfl rfl ?_))
    refine (QB.out _ w5.heap.size HC5.out).mono ?_
    rintro e w6 ⟨rfl, hb6⟩
    have HB6 := Lib.hid ((HB5.out.alloc HB5.out.size _).trans (hb6.mono (HB5.out.alloc HB5.out.size _).size))
    clear hb6 QB HC5 HA5
    go_wp2_with fail
    refine (QN.out _).mono ?_
    rintro e w7 ⟨rfl, hb7⟩
    have HB7 := Lib.hid (HB6.out.trans (hb7.mono HB6.out.size))
    clear hb7
    go_wp2_with fail
    go_ret
    exact ⟨rfl, HB7.out⟩
end Go.Proofs.Ytpjhidicgclmbaa
