/-
  Texts of this seat, put together: FillN5.
-/
import Derived.Test.YtnaangnmlbgmkaaGreatDoorMg26
import Derived.Test.YtnaangnmlbgmkaaGreatDoorMg4
import Derived.Test.YtnaangnmlbgmkaaGreatDoorMg8
import Derived.Test.YtnaangnmlbgmkaaGreatDoorFill5Mg
/-
  Fill: what one message says of what comes, and what is left.
-/
namespace Go.Proofs.YtnaangnmlbgmkaaGreatDoor
set_option linter.unusedVariables false
set_option linter.unusedSimpArgs false
open Go.RowKit

set_option maxHeartbeats 12800000 in
set_option maxRecDepth 100000 in
theorem Fill_news (u : Uv) (wide : Bool) (R : Int) (w : World) (h : u.In w w.heap.size) (hR : 900 ≤ R ∧ R ≤ 1200) (hl : u.attrs.path.length ≤ 1000000 ∧ (∀ s ∈ u.attrs.path, s.nums.length ≤ 1000000000) ∧ u.attrs.comms.length ≤ 1000000 ∧ u.attrs.raws.length ≤ 1000000 ∧ ∀ s ∈ u.attrs.raws, s.data.length ≤ 1000000) (hl2 : u.gone.length ≤ 1000 ∧ u.news.length ≤ 1000)
    (d : List UInt8) (E : Int) (hput : ∀ W, Below w.heap.size w W → Calls Tryz.prog 44 #[.agg u.attrs.row.toArray, .bool wide] W (RetE W d E)) (hse : (sayF u d E).2 = 0) (hsl : (sayF u d E).1.length ≤ 100000) (hg : u.gone = []) (hn : u.news ≠ []) :
    Calls Tryz.prog 15 #[.agg u.row.toArray, .bool wide, .int .i64 R] w fun e w' => (∃ j : Nat, 1 ≤ j ∧ j ≤ u.news.length ∧ RetFill w u (updB [] (sayF u d E).1 (pxB (u.news.take j))) [] (u.news.drop j) e w') ∨ (∃ x : Uv, e = .returned (.tuple #[.slice none 0 0, .agg x.row.toArray, .int .i64 4]) ∧ Below w.heap.size w w') := by
  obtain ⟨W0, hW0⟩ : ∃ W0, W0 = (w.alloc (.cells u.row.toArray 30)).alloc (.cells noneU.toArray 30) := ⟨_, rfl⟩
  have hb0 : Below w.heap.size w W0 := by rw [hW0]; exact ((Below.refl _ _).alloc (Nat.le_refl _) _).alloc (by simp) _
  have kx : Blk W0 w.heap.size 30 u.row := by
    rw [hW0]
    exact (Blk.new w _ _).below ((Below.refl _ _).alloc (Nat.le_refl _) _) (by simp)
  have kr : Blk W0 (w.heap.size + 1) 30 noneU := by
    have := Blk.new (w.alloc (.cells u.row.toArray 30)) 30 noneU
    rw [hW0]
    simpa using this
  have hz : W0.heap.size = w.heap.size + 2 := by rw [hW0]; simp
  have hok := say_ok hse
  have HIN := Lib.hid (fun (W : World) (q : Below W0.heap.size W0 W) => h.below (hb0.trans (q.mono hb0.size)) (Nat.le_refl _))
  have HUV := Lib.hid (fun (W : World) (q : Below W0.heap.size W0 W) => uv_blk (kx.below q kx.lt))
  have HKX := Lib.hid (fun (W : World) (q : Below W0.heap.size W0 W) => kx.below q kx.lt)
  have HKR := Lib.hid (fun (W : World) (q : Below W0.heap.size W0 W) => kr.below q kr.lt)
  have QS := Lib.hid (saying_any u wide W0 ((h.below hb0 (Nat.le_refl _)).lift hb0.size) (by omega) d E (fun W' q' => hput W' (hb0.trans (q'.mono hb0.size))))
  have HL := Lib.hid hl; have HL2 := Lib.hid hl2; have HB0 := Lib.hid hb0; have HZ := Lib.hid hz; have HOK := Lib.hid hok; have HR := Lib.hid hR; have HG := Lib.hid hn
  have HH := Lib.hid h
  have HW0 := Lib.hid (show W0 = (w.alloc (.cells u.row.toArray 30)).alloc (.cells #[.slice none 0 0, .int .i64 0, .slice none 0 0, .int .u32 0, .int .i64 0, .int .i64 0, .bool false, .bool false, .int .u32 0, .int .u32 0, .slice none 0 0, .slice none 0 0, .slice none 0 0] 30) from hW0)
  rw [hse] at QS
  obtain ⟨sd, hsd⟩ : ∃ sd, sd = (sayF u d E).1 := ⟨_, rfl⟩
  rw [← hsd] at QS hsl ⊢
  have HSL := Lib.hid hsl
  have hmx : max R 0 = R := by omega
  have hmn : min R 4077 = R := by omega
  have hws : wrap64 (R - 4) = R - 4 := by unfold wrap64; omega
  have hr0 : ¬ R < 0 := by omega
  have hr1 : ¬ 4077 < R := by omega
  have hgl : ¬ (0 : Int) < (u.gone.length : Int) := by rw [hg]; simp
  have hg0 : ((u.gone.length : Int) == 0) = true := by rw [hg]; rfl
  have hnl : (0 : Int) < (u.news.length : Int) := by have := List.length_pos_iff.2 hn; omega
  obtain ⟨r0, hr0'⟩ : ∃ r0 : Int, r0 = R - 4 - (sd.length : Int) := ⟨_, rfl⟩
  have hw2 : wrap64 (R - 4 - (sd.length : Int)) = r0 := by rw [hr0']; unfold wrap64; omega
  have hw3 : IntKind.i64.wrap (R - 4 - (sd.length : Int)) = r0 := by first | exact hw2 | (rw [hr0']; simp [IntKind.wrap, IntKind.bits, IntKind.signed]; omega)
  have HR0 := Lib.hid hr0'
  have HGE := Lib.hid hg
  clear hW0 hb0 kx kr hz h hl hl2 hok hput hse hg hn hsd hsl hr0'
  go_enter Tryz.func15, Tryz.ntmps15
  go_wp2_with (first
    | (refine wpList_boxU _ rfl (.tmp 0) rfl u rfl ?_)
    | (rw [← HW0.out]; refine wpList_loadU _ rfl (.tmp 3) rfl w.heap.size u rfl (HUV.out _ (Below.refl _ _)) ?_))
  refine QS.out.mono ?_
  rintro e w2 ⟨A2, c2, rfl, f2, g2, ho2, hb2⟩
  have HB2 := Lib.hid hb2
  have cg := (HUV.out _ hb2).gone
  have cn := (HUV.out _ hb2).news
  have HO2 := Lib.hid ho2
  clear ho2 hb2 f2 g2 QS
  go_wp2_with fail
  have hb2d : Below W0.heap.size W0 w2.drew := HB2.out.drew
  obtain ⟨W3, hW3⟩ : ∃ W3, W3 = w2.drew.alloc (.cells #[.int .i64 r0] 3) := ⟨_, rfl⟩
  have hb3 : Below W0.heap.size W0 W3 := by rw [hW3]; exact hb2d.alloc hb2d.size _
  have kR3 : Blk W3 w2.heap.size 3 [.int .i64 r0] := by rw [hW3]; exact Blk.new w2.drew _ _
  have hsz2 : W0.heap.size ≤ w2.heap.size := HB2.out.size
  have hz2 : w.heap.size ≤ w2.heap.size := Nat.le_trans HB0.out.size hsz2
  have Q1 := Lib.hid (Room6_any u.newsA u.newsC u.news W3 w2.heap.size r0 kR3 hz2 (HIN.out W3 hb3).news HH.out.newsC.1 HH.out.newsC.2 HH.out.newsF HOK.out.2 (by have := HL2.out; omega) (by have := HR.out; have := HR0.out; have := HSL.out; omega))
  have cg2 := (HUV.out _ hb2d).news
  have HOW := Lib.hid (show Own W3 W0.heap.size 5 (.slice A2 sd.length c2) sd by rw [hW3]; exact Own.alloc (Own.drew HO2.out) _)
  have HW3 := Lib.hid hW3; have HK3 := Lib.hid kR3; have HSZ2 := Lib.hid hsz2
  clear cg cn hW3 kR3 hz2 hsz2
  go_region_held3 (fun w' => w'.cell? ⟨w.heap.size, 12, none⟩ = some (.slice u.newsA u.news.length u.newsC)) (first | exact (HUV.out _ hb2d).news | exact (HUV.out _ hb3).news | exact (HUV.out _ hb4).news) ((first
    | (go_at_call 20; (try simp only [hws, hw2, hw3]); refine (within5_any r0 w2.drew).mono ?_; rintro e w3 ⟨rfl, hw3⟩; rw [← HW3.out] at hw3; subst hw3)
    | (go_at_call 45; refine Q1.out.mono ?_; rintro e w4 ⟨A4, l4, c4, D4, m4, dc4, r4, j, rfl, f4, g4, hr4, hr4b, hb4r, ho4, hj, hl4, hm4, hd4, he4, hp4, h1j⟩; have hb4 : Below W0.heap.size W0 w4 := hb3.trans ((room_below hb4r (Nat.le_of_lt HK3.out.lt)).mono HSZ2.out); have HB4 := Lib.hid hb4; have HO4 := Lib.hid ho4; have HSD := Lib.hid (show Own w4 W0.heap.size 5 (.slice A2 sd.length c2) sd from Own.below (Own.room HOW.out HK3.out r4) (by rw [roomW_size]; exact hb4r)); have HP4 := Lib.hid hp4; have HJ := Lib.hid (And.intro hj (And.intro hl4 (And.intro hm4 (And.intro hd4 (And.intro he4 h1j))))); clear hb4r ho4 hp4 hr4 hr4b hj hl4 hm4 hd4 he4 h1j)))
  by_cases hl0 : l4.length = 0
  · have hlen : ((l4.length : Int) == 0) = true := by rw [hl0]; rfl
    have KR4 := Lib.hid (HKR.out w4 HB4.out)
    have BW4 := Lib.hid (HB0.out.trans (HB4.out.mono HB0.out.size))
    clear hl0
    go_wp2_with (refine wpList_storeU _ rfl rfl (.tmp 7) (.tmp 71) rfl (w.heap.size + 1) 30 noneU ⟨none, 0, [], noneA, none, 0, []⟩ rfl rfl KR4.out rfl ?_)
    intro w8 k8 hg8
    have BF := Lib.hid (BW4.out.grown hg8 BW4.out.size (fun k hk => by cases hk; omega))
    have HRA := Lib.hid (cells13 (show Blk w8 (w.heap.size + 1) 30 [.slice none 0 0, .int .i64 0, .slice none 0 0, .int .u32 0, .int .i64 0, .int .i64 0, .bool false, .bool false, .int .u32 0, .int .u32 0, .slice none 0 0, .slice none 0 0, .slice none 0 0] from k8))
    clear k8 hg8
    go_wp2_with fail
    have ra := HRA.out
    refine bodyPost_ret (v := .tuple #[.slice none 0 0, .agg (Uv.row ⟨none, 0, [], noneA, none, 0, []⟩).toArray, .int .i64 4]) ?_ rfl (.inr ⟨⟨none, 0, [], noneA, none, 0, []⟩, rfl, BF.out⟩)
    simp [results, Tryz.results15, go_sem, Uv.row, Av.row, noneA, ra]
  have h1 : 1 ≤ j := by
    rcases Nat.eq_zero_or_pos j with h0 | h0
    · exfalso
      have e := HJ.out.2.1
      rw [h0] at e
      simp [pxB] at e
      exact hl0 (by rw [e]; rfl)
    · exact h0
  have hlen : ((l4.length : Int) == 0) = false := by rw [beq_eq_false_iff_ne]; omega
  have hl5 : l4.length ≤ 10000 := by
    have e := HJ.out.2.1
    have := pxB_take_len (L := u.news) j
    have := HL2.out
    rw [e]; omega
  have QB := Lib.hid (body_any none A2 A4 0 c2 c4 [] sd l4 w4 (At.nil _ _ _) HSD.out.bytes HO4.out.bytes (by simp) (by have := HSL.out; omega) (by omega))
  have H1 := Lib.hid h1
  clear h1 hl5 cg2 Q1
  go_wp2_with fail
  refine QB.out.mono ?_
  rintro e w5 ⟨A5, c5, rfl, f5, g5, ho5, hb5⟩
  have hB5 : Below W0.heap.size W0 w5 := HB4.out.trans (hb5.mono HB4.out.size)
  have kb5 := HKX.out w5 hB5
  obtain ⟨W6, hW6⟩ : ∃ W6, W6 = w5.setCell ⟨w.heap.size, 12, none⟩ (.slice D4 m4 dc4) := ⟨_, rfl⟩
  have hg6 : w5.grownBy W6 (some w.heap.size) := by rw [hW6]; exact grown_setCell (grown_refl _ _) 12 _
  have hBw5 : Below w.heap.size w w5 := HB0.out.trans (hB5.mono HB0.out.size)
  have hBw6 : Below w.heap.size w5 W6 := below_of_grown hg6 hBw5.size (Nat.le_refl _)
  have k6 : Blk W6 w.heap.size 30 (Uv.row ⟨u.goneA, u.goneC, u.gone, u.attrs, D4, dc4, u.news.drop j⟩) := by
    rw [hW6]
    have := kb5.set 12 (.slice D4 m4 dc4)
    rw [HJ.out.2.2.1] at this
    rw [HJ.out.2.2.1]
    exact this
  have hin6 : Uv.In W6 w.heap.size ⟨u.goneA, u.goneC, u.gone, u.attrs, D4, dc4, u.news.drop j⟩ :=
    ⟨((HIN.out w5 hB5).gone).below hBw6 (Nat.le_refl _), HH.out.goneC, HH.out.goneF, ((HIN.out w5 hB5).attrs).below hBw6 (Nat.le_refl _), (HP4.out.below hb5 (Nat.le_trans HB0.out.size HB4.out.size)).below hBw6 (Nat.le_refl _),
      ⟨by have := HJ.out.2.2.1; have := HJ.out.2.2.2.1; show (u.news.drop j).length ≤ dc4; omega, HJ.out.2.2.2.2.1⟩, fun x hx => HH.out.newsF x (List.mem_of_mem_drop hx)⟩
  have hs6 : w.heap.size ≤ W6.heap.size := Nat.le_trans hBw5.size hg6.size
  have QO := Lib.hid (ownU_any ⟨u.goneA, u.goneC, u.gone, u.attrs, D4, dc4, u.news.drop j⟩ W6 (hin6.lift hs6) HL.out (by have := HL2.out; show u.gone.length ≤ 1000000 ∧ (u.news.drop j).length ≤ 1000000; rw [List.length_drop]; omega))
  have c50 : w5.cell? ⟨w.heap.size, 12, none⟩ = some (.slice u.newsA u.news.length u.newsC) := kb5.cell 12
  have fr50 : w5.frozen? ⟨w.heap.size, 12, none⟩ = false := kb5.free 12
  have HW6 := Lib.hid hW6; have K6 := Lib.hid k6
  have O6 := Lib.hid (row_keep ho5 kb5 (by decide) hg6)
  have KR6 := Lib.hid ((HKR.out w5 hB5).grown hg6 (by omega))
  have BW6 := Lib.hid (hBw5.trans (hBw6.mono (Nat.le_refl _)))
  have HC5 := Lib.hid (And.intro f5 g5)
  have HS45 := Lib.hid (show w.heap.size ≤ w4.heap.size from Nat.le_trans HB0.out.size HB4.out.size)
  clear hb5 hB5 kb5 hW6 hg6 hBw5 hBw6 k6 hin6 hs6 ho5 f5 g5 QB
  go_wp2_with (first
    | (rw [← HW6.out]; refine wpList_loadU _ rfl (.tmp 3) rfl w.heap.size ⟨u.goneA, u.goneC, u.gone, u.attrs, D4, dc4, u.news.drop j⟩ rfl (uv_blk K6.out) ?_))
  refine QO.out.mono ?_
  rintro e w7 ⟨x, rfl, hox, hb7, y1, y2, y3, y4⟩
  have KR7 := Lib.hid (KR6.out.below hb7 KR6.out.lt)
  have O7 := Lib.hid (row_below O6.out hb7)
  have HOX := Lib.hid (hox.lower BW6.out.size)
  have BW7 := Lib.hid (BW6.out.trans (hb7.mono BW6.out.size))
  have HY := Lib.hid (And.intro y1 (And.intro y2 (And.intro y3 y4)))
  clear hox hb7 y1 y2 y3 y4 QO
  go_wp2_with (refine wpList_storeU _ rfl rfl (.tmp 7) (.tmp 79) rfl (w.heap.size + 1) 30 noneU x rfl rfl KR7.out rfl ?_)
  intro w8 k8 hg8
  have O8 := Lib.hid (row_keep O7.out KR7.out (by decide) hg8)
  have HOX8 := Lib.hid (HOX.out.keeps KR7.out (by decide) (by decide) (by decide) (by decide) (by decide) hg8)
  have BF := Lib.hid (BW7.out.grown hg8 BW7.out.size (fun k hk => by cases hk; omega))
  obtain ⟨gA, gC, gone, ⟨org, pa, pc, path, next, med, pref, atomic, has, aas, aad, ca, cc, comms, ra0, rc, raws⟩, nA, nC, news⟩ := x
  have HRA := Lib.hid (cells13 (show Blk w8 (w.heap.size + 1) 30 [.slice gA gone.length gC, .int .i64 org, .slice pa path.length pc, .int .u32 next, .int .i64 med, .int .i64 pref, .bool atomic, .bool has, .int .u32 aas, .int .u32 aad, .slice ca comms.length cc, .slice ra0 raws.length rc, .slice nA news.length nC] from k8))
  clear k8 hg8
  go_wp2_with fail
  have ra := HRA.out
  have e4 := HJ.out.2.1
  refine bodyPost_ret (v := .tuple #[.slice A5 (updB [] sd l4).length c5, .agg (Uv.row ⟨gA, gC, gone, ⟨org, pa, pc, path, next, med, pref, atomic, has, aas, aad, ca, cc, comms, ra0, rc, raws⟩, nA, nC, news⟩).toArray, .int .i64 0]) ?_ rfl (.inl ⟨j, H1.out, HJ.out.1, A5, c5, ⟨gA, gC, gone, ⟨org, pa, pc, path, next, med, pref, atomic, has, aas, aad, ca, cc, comms, ra0, rc, raws⟩, nA, nC, news⟩, by rw [e4], ?_, HC5.out.2, ?_, HOX8.out, BF.out, by rw [HY.out.1]; exact HGE.out, HY.out.2.1, HY.out.2.2.1, HY.out.2.2.2⟩)
  · simp [results, Tryz.results15, go_sem, Uv.row, Av.row, ra]
  · rw [← e4]; exact HC5.out.1
  · rw [← e4]; exact row_lower O8.out HS45.out
end Go.Proofs.YtnaangnmlbgmkaaGreatDoor
