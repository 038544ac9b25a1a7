/-
  Texts of this seat, put together: Awake5.
-/
import Derived.Test.YtnaangnmlbgmkaaGreatDoorMg8
import Derived.Test.YtnaangnmlbgmkaaGreatDoorMg22
import Derived.Test.YtnaangnmlbgmkaaGreatDoorURead5Mg
import Derived.Test.YtnaangnmlbgmkaaGreatDoorMg15
/-
  The example of layer 5: the body that says that 10.0.0.0/8 goes, and what is read of it.
-/
namespace Go.Proofs.YtnaangnmlbgmkaaGreatDoor
set_option linter.unusedVariables false
set_option linter.unusedSimpArgs false
open Go.RowKit

def exG5 : List Px := [(167772160, 8)]
def exB5 : List UInt8 := [0, 2, 8, 10, 0, 0]
def exU5 (g : Nat) : Uv := ⟨some ⟨g, 0, none⟩, 1, exG5, noneA, none, 0, []⟩
theorem exB5_is : exB5 = updB (pxB exG5) [] (pxB []) := by decide
theorem exG5_ok : pxsOk exG5 = true := by decide
theorem exG5_fit : ∀ x ∈ exG5, PxFit x := by
  intro x hx
  obtain rfl : x = (167772160, 8) := by simpa [exG5] using hx
  unfold PxFit
  decide
theorem exU5_in (w : World) : (exU5 w.heap.size).In (w.alloc (.cells #[.int .u32 167772160, .int .i64 8] 54)) (w.alloc (.cells #[.int .u32 167772160, .int .i64 8] 54)).heap.size := by
  refine ⟨fun _ => ⟨w.heap.size, 0, rfl, by simp, fun j x hj => ?_⟩, ⟨Nat.le_refl 1, by show 1 ≤ maxLen; unfold maxLen; decide⟩, exG5_fit, noneA_in _, PxsIn.nil _ _ _, ⟨Nat.le_refl _, Nat.zero_le _⟩, fun x hx => by cases hx⟩
  have hb := Blk.new w 54 [.int .u32 167772160, .int .i64 8]
  rcases j with _ | j
  · obtain rfl : ((167772160, 8) : Px) = x := by simpa [exU5, exG5] using hj
    exact ⟨hb.cell 0, hb.cell 1⟩
  · simp [exU5, exG5] at hj
theorem noneA_arg (w : World) : AvArg w noneA :=
  ⟨noneA_in w, (fun x hx => by cases hx), (fun s hs => by cases hs), (fun s hs => by cases hs), by decide, by decide, by decide, by decide, by decide, by decide⟩
theorem exPut5 (g : Nat) (d : List UInt8) (E : Int) : putF (exU5 g) d E = (exB5, 0) := by
  have h0 : (pxsOk (exU5 g).gone && pxsOk (exU5 g).news) = true := show (pxsOk exG5 && pxsOk []) = true by decide
  have hs : sayF (exU5 g) d E = ([], 0) := by unfold sayF; rw [if_pos h0, if_pos (show (exU5 g).news = [] from rfl)]
  have h := (putF_all (exU5 g) d E).2.1
  rw [hs] at h
  rw [h rfl ((fits_iff _ _ (fun _ => rfl)).2 (show (updB (pxB exG5) [] (pxB [])).length ≤ 4077 by decide))]
  rw [exB5_is]
  rfl
set_option maxRecDepth 100000 in
set_option maxHeartbeats 12800000 in
theorem awake5_any (w : World) (ht : TabK w) : Calls Tryz.prog 7 #[] w fun e w' => e = .returned (.bool true) ∧ Below w.heap.size w w' := by
  obtain ⟨W1, hW1⟩ : ∃ W1, W1 = w.alloc (.cells #[.int .u32 167772160, .int .i64 8] 54) := ⟨_, rfl⟩
  have hb1 : Below w.heap.size w W1 := by rw [hW1]; exact (Below.refl _ _).alloc (Nat.le_refl _) _
  have HT := Lib.hid (fun (W : World) (hb : Below w.heap.size w W) => ht.below hb ht.lt)
  have hin : (exU5 w.heap.size).In W1 W1.heap.size := by rw [hW1]; exact exU5_in w
  obtain ⟨d, E, hE, hdl, hd⟩ := puts5 noneA true W1 (HT.out _ hb1) (noneA_arg _) (by decide) (by decide) (by decide)
  have qp := UPut_any (exU5 w.heap.size) true W1 hin (show exG5.length ≤ 100000 ∧ ([] : List Px).length ≤ 100000 by decide) d E hdl (fun W q => (hd W q).1)
  rw [exPut5] at qp
  have QP := Lib.hid qp
  have HW1 := Lib.hid hW1; have HB1 := Lib.hid hb1
  clear qp hd hdl hE hin hb1 hW1 ht
  unfold exU5 Uv.row Av.row noneA at QP
  dsimp only at QP
  go_enter Tryz.func7, Tryz.ntmps7
  go_wp2_with fail
  rw [← HW1.out]
  refine QP.out.mono ?_
  rintro e w2 ⟨A2, c2, rfl, f1, f2, ho2, hb2⟩
  have B2 := Lib.hid (HB1.out.trans (hb2.mono HB1.out.size))
  have q := URead_none A2 c2 exB5 [] exG5 [] rs0 false w2 ho2.bytes f1 f2 exB5_is exG5_ok exG5_fit rfl (fun x hx => by cases hx) (by decide) (by decide) (by decide) (by decide) (by decide)
    (fun W B dd hq hy h1 h2 => ReadA_wide (fun _ => false) B dd [] W (HT.out W (B2.out.trans (hq.mono B2.out.size))) hy h1 h2 (by decide) rs0 (RunK.nil _ _ _) (fun gx f k S T A A2 c n2 c2 B' v r b W h => by cases h)) rfl
  have QR := Lib.hid q
  have O2 := Lib.hid ho2
  clear f1 f2 ho2 hb2 q QP HB1 HW1
  go_wp2_with fail
  refine QR.out.mono ?_
  rintro e w3 ⟨u, rfl, hin, hb3, e1, e2, e3⟩
  obtain ⟨gA, gC, gone, attrs, nA, nC, news⟩ := u
  dsimp only at e1 e2 e3
  subst e1 e2 e3
  have O3 := Lib.hid (row_below O2.out hb3)
  have B3 := Lib.hid (B2.out.trans (hb3.mono B2.out.size))
  obtain ⟨u, hu⟩ : ∃ u : Uv, u = ⟨gA, gC, exG5, noneA, nA, nC, []⟩ := ⟨_, rfl⟩
  obtain ⟨W4, hW4⟩ : ∃ W4, W4 = (w3.alloc (.cells u.row.toArray 30)).alloc (.cells #[.int .i64 0, .int .i64 0, .slice none 0 0] 43) := ⟨_, rfl⟩
  have hb4 : Below w3.heap.size w3 W4 := by rw [hW4]; exact ((Below.refl _ _).alloc (Nat.le_refl _) _).alloc (by simp) _
  have ku : Blk W4 w3.heap.size 30 u.row := by
    rw [hW4]
    exact (Blk.new w3 _ _).below ((Below.refl _ _).alloc (Nat.le_refl _) _) (by simp)
  have kf : Blk W4 (w3.heap.size + 1) 43 [.int .i64 0, .int .i64 0, .slice none 0 0] := by
    have := Blk.new (w3.alloc (.cells u.row.toArray 30)) 43 [.int .i64 0, .int .i64 0, .slice none 0 0]
    rw [hW4]
    simpa using this
  rw [← hu] at hin
  have hin4 : u.In W4 W4.heap.size := (hin.below hb4 (Nat.le_refl _)).lift hb4.size
  have hug : u.gone = exG5 := by rw [hu]
  have hun : u.news = [] := by rw [hu]
  have hua : u.attrs = noneA := by rw [hu]
  have QS := Lib.hid (USame_yes u u W4 hin4 hin4 rfl rfl (Av.same_me _) (by rw [hua]; decide) (by rw [hua]; decide) (by rw [hug]; decide) (by rw [hun]; decide))
  have HUV := Lib.hid (uv_blk ku)
  have f0 : W4.cell? ⟨w3.heap.size + 1, 0, none⟩ = some (.int .i64 0) := kf.cell 0
  have g0 : W4.cell? ⟨w3.heap.size, 0, none⟩ = some (.slice gA 1 gC) := by have := ku.cell 0; rw [hu] at this; exact this
  have B4 := Lib.hid (B3.out.trans (hb4.mono B3.out.size))
  have k1 := conv_bytes (d := 9) isBytes Tryz.underlying9 (Bytes.below (Own.bytes O3.out) hb4) c2
  replace k1 : (convert 33 9 (.slice A2 exB5.length c2)).run Tryz.prog W4 = .ok (.string ⟨#[0, 2, 8, 10, 0, 0]⟩) W4 := k1
  have hrow : u.row = [.slice gA 1 gC, .int .i64 0, .slice none 0 0, .int .u32 0, .int .i64 0, .int .i64 0, .bool false, .bool false, .int .u32 0, .int .u32 0, .slice none 0 0, .slice none 0 0, .slice nA 0 nC] := by rw [hu]; rfl
  rw [hrow] at hW4
  have HW4 := Lib.hid hW4
  clear hin hb3 hu hb4 ku kf hin4 hug hun hua hrow hW4 O2 O3 B2 QR
  rw [HW4.out] at k1 f0 g0
  unfold Uv.row Av.row noneA fault0
  dsimp only
  simp only [show exG5.length = 1 from rfl]
  go_wp2_with (first | (rw [← HW4.out]; refine wpList_loadGU _ (by rfl) (.tmp 3) rfl w3.heap.size u rfl HUV.out ?_) | (refine wpList_loadGU _ (by rfl) (.tmp 3) rfl w3.heap.size u rfl HUV.out ?_))
  refine QS.out.mono ?_
  rintro e w5 ⟨rfl, hb5⟩
  have B5 := Lib.hid (B4.out.trans (hb5.mono B4.out.size))
  clear hb5
  go_wp2_with fail
  go_ret
  exact ⟨rfl, B5.out⟩
end Go.Proofs.YtnaangnmlbgmkaaGreatDoor
