/-
  Texts of this seat, put together: Fill5.
-/
import Derived.Test.YtnaangnmlbgmkaaGreatDoorMg26
import Derived.Test.YtnaangnmlbgmkaaGreatDoorMg4
import Derived.Test.YtnaangnmlbgmkaaGreatDoorMg8
/-
  Fill: what one message says of what goes, and what is left.
-/
namespace Go.Proofs.YtnaangnmlbgmkaaGreatDoor
set_option linter.unusedVariables false
set_option linter.unusedSimpArgs false
open Go.RowKit

/-- What Fill leaves where it tells a body: of what goes the first j, of what comes the first k; x is left. -/
def RetFill (w : World) (u : Uv) (b : List UInt8) (G N : List Px) (e : Ending) (w' : World) : Prop :=
  ∃ (A : Option Addr) (c : Nat) (x : Uv), e = .returned (.tuple #[.slice A b.length c, .agg x.row.toArray, .int .i64 0]) ∧ b.length ≤ c ∧ c ≤ maxLen ∧ Own w' w.heap.size 5 (.slice A b.length c) b ∧ OwnUv w.heap.size w' x ∧ Below w.heap.size w w' ∧ x.gone = G ∧ x.news = N ∧ (N = [] → x.attrs = noneA) ∧ (N ≠ [] → x.attrs.org = u.attrs.org ∧ x.attrs.path.map Sg.abs = u.attrs.path.map Sg.abs ∧ x.attrs.next = u.attrs.next ∧ x.attrs.med = u.attrs.med ∧ x.attrs.pref = u.attrs.pref ∧ x.attrs.atomic = u.attrs.atomic ∧ x.attrs.has = u.attrs.has ∧ x.attrs.aas = u.attrs.aas ∧ x.attrs.aad = u.attrs.aad ∧ x.attrs.comms = u.attrs.comms ∧ x.attrs.raws.map Rw.abs = u.attrs.raws.map Rw.abs)
set_option maxHeartbeats 12800000 in
set_option maxRecDepth 100000 in
theorem Fill_gone (u : Uv) (wide : Bool) (R : Int) (w : World) (h : u.In w w.heap.size) (hR : 900 ≤ R ∧ R ≤ 1200) (hl : u.attrs.path.length ≤ 1000000 ∧ (∀ s ∈ u.attrs.path, s.nums.length ≤ 1000000000) ∧ u.attrs.comms.length ≤ 1000000 ∧ u.attrs.raws.length ≤ 1000000 ∧ ∀ s ∈ u.attrs.raws, s.data.length ≤ 1000000) (hl2 : u.gone.length ≤ 1000 ∧ u.news.length ≤ 1000)
    (d : List UInt8) (E : Int) (hput : ∀ W, Below w.heap.size w W → Calls Tryz.prog 44 #[.agg u.attrs.row.toArray, .bool wide] W (RetE W d E)) (hse : (sayF u d E).2 = 0) (hg : u.gone ≠ []) :
    Calls Tryz.prog 15 #[.agg u.row.toArray, .bool wide, .int .i64 R] w fun e w' => ∃ j : Nat, 1 ≤ j ∧ j ≤ u.gone.length ∧ RetFill w u (updB (pxB (u.gone.take j)) [] []) (u.gone.drop j) u.news e w' := by
  obtain ⟨W0, hW0⟩ : ∃ W0, W0 = (w.alloc (.cells u.row.toArray 30)).alloc (.cells noneU.toArray 30) := ⟨_, rfl⟩
  have hb0 : Below w.heap.size w W0 := by rw [hW0]; exact ((Below.refl _ _).alloc (Nat.le_refl _) _).alloc (by simp) _
  have kx : Blk W0 w.heap.size 30 u.row := by
    rw [hW0]
    exact (Blk.new w _ _).below ((Below.refl _ _).alloc (Nat.le_refl _) _) (by simp)
  have kr : Blk W0 (w.heap.size + 1) 30 noneU := by
    have := Blk.new (w.alloc (.cells u.row.toArray 30)) 30 noneU
    rw [hW0]
    simpa using this
  have hz : W0.heap.size = w.heap.size + 2 := by rw [hW0]; simp
  have hok := say_ok hse
  have HIN := Lib.hid (fun (W : World) (q : Below W0.heap.size W0 W) => h.below (hb0.trans (q.mono hb0.size)) (Nat.le_refl _))
  have HUV := Lib.hid (fun (W : World) (q : Below W0.heap.size W0 W) => uv_blk (kx.below q kx.lt))
  have HKX := Lib.hid (fun (W : World) (q : Below W0.heap.size W0 W) => kx.below q kx.lt)
  have HKR := Lib.hid (fun (W : World) (q : Below W0.heap.size W0 W) => kr.below q kr.lt)
  have QS := Lib.hid (saying_any u wide W0 ((h.below hb0 (Nat.le_refl _)).lift hb0.size) (by omega) d E (fun W' q' => hput W' (hb0.trans (q'.mono hb0.size))))
  have HL := Lib.hid hl; have HL2 := Lib.hid hl2; have HB0 := Lib.hid hb0; have HZ := Lib.hid hz; have HOK := Lib.hid hok; have HR := Lib.hid hR; have HG := Lib.hid hg
  have HH := Lib.hid h
  have HW0 := Lib.hid (show W0 = (w.alloc (.cells u.row.toArray 30)).alloc (.cells #[.slice none 0 0, .int .i64 0, .slice none 0 0, .int .u32 0, .int .i64 0, .int .i64 0, .bool false, .bool false, .int .u32 0, .int .u32 0, .slice none 0 0, .slice none 0 0, .slice none 0 0] 30) from hW0)
  rw [hse] at QS
  generalize (sayF u d E).1 = sd at QS
  have hmx : max R 0 = R := by omega
  have hmn : min R 4077 = R := by omega
  have hws : wrap64 (R - 4) = R - 4 := by unfold wrap64; omega
  have hr0 : ¬ R < 0 := by omega
  have hr1 : ¬ 4077 < R := by omega
  have hgl : (0 : Int) < (u.gone.length : Int) := by have := List.length_pos_iff.2 hg; omega
  clear hW0 hb0 kx kr hz h hl hl2 hok hput hse hg
  go_enter Tryz.func15, Tryz.ntmps15
  go_wp2_with (first
    | (refine wpList_boxU _ rfl (.tmp 0) rfl u rfl ?_)
    | (rw [← HW0.out]; refine wpList_loadU _ rfl (.tmp 3) rfl w.heap.size u rfl (HUV.out _ (Below.refl _ _)) ?_))
  refine QS.out.mono ?_
  rintro e w2 ⟨A2, c2, rfl, f2, g2, ho2, hb2⟩
  have HB2 := Lib.hid hb2
  have cg := (HUV.out _ hb2).gone
  clear ho2 hb2 f2 g2 QS
  go_wp2_with fail
  have hb2d : Below W0.heap.size W0 w2.drew := HB2.out.drew
  obtain ⟨W3, hW3⟩ : ∃ W3, W3 = w2.drew.alloc (.cells #[.int .i64 (R - 4)] 3) := ⟨_, rfl⟩
  have hb3 : Below W0.heap.size W0 W3 := by rw [hW3]; exact hb2d.alloc hb2d.size _
  have kR3 : Blk W3 w2.heap.size 3 [.int .i64 (R - 4)] := by rw [hW3]; exact Blk.new w2.drew _ _
  have hsz2 : W0.heap.size ≤ w2.heap.size := HB2.out.size
  have hz2 : w.heap.size ≤ w2.heap.size := Nat.le_trans HB0.out.size hsz2
  have Q1 := Lib.hid (Room6_any u.goneA u.goneC u.gone W3 w2.heap.size (R - 4) kR3 hz2 (HIN.out W3 hb3).gone HH.out.goneC.1 HH.out.goneC.2 HH.out.goneF HOK.out.1 (by have := HL2.out; omega) (by have := HR.out; omega))
  have cg2 := (HUV.out _ hb2d).gone
  have HW3 := Lib.hid hW3; have HK3 := Lib.hid kR3; have HSZ2 := Lib.hid hsz2
  clear cg hW3 kR3 hz2 hsz2
  go_region_held3 (fun w' => w'.cell? ⟨w.heap.size, 0, none⟩ = some (.slice u.goneA u.gone.length u.goneC)) (first | exact (HUV.out _ hb2d).gone | exact (HUV.out _ hb3).gone | exact (HUV.out _ hb4).gone) ((first
    | (go_at_call 20; refine (within5_any (R - 4) w2.drew).mono ?_; rintro e w3 ⟨rfl, hw3⟩; rw [← HW3.out] at hw3; subst hw3)
    | (go_at_call 45; refine Q1.out.mono ?_; rintro e w4 ⟨A4, l4, c4, D4, m4, dc4, r4, j, rfl, f4, g4, hr4, hr4b, hb4r, ho4, hj, hl4, hm4, hd4, he4, hp4, h1j⟩; have hb4 : Below W0.heap.size W0 w4 := hb3.trans ((room_below hb4r (Nat.le_of_lt HK3.out.lt)).mono HSZ2.out); have HB4 := Lib.hid hb4; have HO4 := Lib.hid ho4; have HP4 := Lib.hid hp4; have HJ := Lib.hid (And.intro hj (And.intro hl4 (And.intro hm4 (And.intro hd4 (And.intro he4 h1j))))); clear hb4r ho4 hp4 hr4 hr4b hj hl4 hm4 hd4 he4 h1j)))
  have h1 : 1 ≤ j := HJ.out.2.2.2.2.2 HG.out (by have := HR.out; omega)
  have hlen : ((l4.length : Int) == 0) = false := by
    have e := HJ.out.2.1
    have hj := HJ.out.1
    have hne : 1 ≤ (pxB (u.gone.take j)).length := by
      have hG := HG.out
      cases hgn : u.gone with
      | nil => exact absurd hgn hG
      | cons y ys =>
        cases j with
        | zero => omega
        | succ j =>
          rw [List.take_succ_cons, pxB_cons, List.length_append]
          have := (bytesP_len y.1 y.2.toNat).1
          omega
    rw [beq_eq_false_iff_ne]
    rw [e]
    omega
  have hl5 : l4.length ≤ 10000 := by
    have e := HJ.out.2.1
    have := pxB_take_len (L := u.gone) j
    have := HL2.out
    rw [e]; omega
  have QB := Lib.hid (body_any A4 none none c4 0 0 l4 [] [] w4 HO4.out.bytes (At.nil _ _ _) (At.nil _ _ _) (by omega) (by simp) (by simp))
  have H1 := Lib.hid h1
  clear h1 hl5 cg2 Q1
  go_wp2_with fail
  refine QB.out.mono ?_
  rintro e w5 ⟨A5, c5, rfl, f5, g5, ho5, hb5⟩
  have hB5 : Below W0.heap.size W0 w5 := HB4.out.trans (hb5.mono HB4.out.size)
  have kb5 := HKX.out w5 hB5
  obtain ⟨W6, hW6⟩ : ∃ W6, W6 = w5.setCell ⟨w.heap.size, 0, none⟩ (.slice D4 m4 dc4) := ⟨_, rfl⟩
  have hg6 : w5.grownBy W6 (some w.heap.size) := by rw [hW6]; exact grown_setCell (grown_refl _ _) 0 _
  have hBw5 : Below w.heap.size w w5 := HB0.out.trans (hB5.mono HB0.out.size)
  have hBw6 : Below w.heap.size w5 W6 := below_of_grown hg6 hBw5.size (Nat.le_refl _)
  have k6 : Blk W6 w.heap.size 30 (Uv.row ⟨D4, dc4, u.gone.drop j, u.attrs, u.newsA, u.newsC, u.news⟩) := by
    rw [hW6]
    have := kb5.set 0 (.slice D4 m4 dc4)
    rw [HJ.out.2.2.1] at this
    rw [HJ.out.2.2.1]
    exact this
  have hin6 : Uv.In W6 w.heap.size ⟨D4, dc4, u.gone.drop j, u.attrs, u.newsA, u.newsC, u.news⟩ :=
    ⟨(HP4.out.below hb5 (Nat.le_trans HB0.out.size HB4.out.size)).below hBw6 (Nat.le_refl _), ⟨by have := HJ.out.2.2.1; have := HJ.out.2.2.2.1; show (u.gone.drop j).length ≤ dc4; omega, HJ.out.2.2.2.2.1⟩, fun x hx => HH.out.goneF x (List.mem_of_mem_drop hx),
      ((HIN.out w5 hB5).attrs).below hBw6 (Nat.le_refl _), ((HIN.out w5 hB5).news).below hBw6 (Nat.le_refl _), HH.out.newsC, HH.out.newsF⟩
  have hs6 : w.heap.size ≤ W6.heap.size := Nat.le_trans hBw5.size hg6.size
  have QO := Lib.hid (ownU_any ⟨D4, dc4, u.gone.drop j, u.attrs, u.newsA, u.newsC, u.news⟩ W6 (hin6.lift hs6) HL.out (by have := HL2.out; show (u.gone.drop j).length ≤ 1000000 ∧ u.news.length ≤ 1000000; rw [List.length_drop]; omega))
  have c50 : w5.cell? ⟨w.heap.size, 0, none⟩ = some (.slice u.goneA u.gone.length u.goneC) := kb5.cell 0
  have fr50 : w5.frozen? ⟨w.heap.size, 0, none⟩ = false := kb5.free 0
  have HW6 := Lib.hid hW6; have K6 := Lib.hid k6
  have O6 := Lib.hid (row_keep ho5 kb5 (by decide) hg6)
  have KR6 := Lib.hid ((HKR.out w5 hB5).grown hg6 (by omega))
  have BW6 := Lib.hid (hBw5.trans (hBw6.mono (Nat.le_refl _)))
  have HC5 := Lib.hid (And.intro f5 g5)
  have HS45 := Lib.hid (show w.heap.size ≤ w4.heap.size from Nat.le_trans HB0.out.size HB4.out.size)
  clear hb5 hB5 kb5 hW6 hg6 hBw5 hBw6 k6 hin6 hs6 ho5 f5 g5 QB
  go_wp2_with (first
    | (rw [← HW6.out]; refine wpList_loadU _ rfl (.tmp 3) rfl w.heap.size ⟨D4, dc4, u.gone.drop j, u.attrs, u.newsA, u.newsC, u.news⟩ rfl (uv_blk K6.out) ?_))
  refine QO.out.mono ?_
  rintro e w7 ⟨x, rfl, hox, hb7, y1, y2, y3, y4⟩
  have KR7 := Lib.hid (KR6.out.below hb7 KR6.out.lt)
  have O7 := Lib.hid (row_below O6.out hb7)
  have HOX := Lib.hid (hox.lower BW6.out.size)
  have BW7 := Lib.hid (BW6.out.trans (hb7.mono BW6.out.size))
  have HY := Lib.hid (And.intro y1 (And.intro y2 (And.intro y3 y4)))
  clear hox hb7 y1 y2 y3 y4 QO
  go_wp2_with (refine wpList_storeU _ rfl rfl (.tmp 7) (.tmp 79) rfl (w.heap.size + 1) 30 noneU x rfl rfl KR7.out rfl ?_)
  intro w8 k8 hg8
  have O8 := Lib.hid (row_keep O7.out KR7.out (by decide) hg8)
  have HOX8 := Lib.hid (HOX.out.keeps KR7.out (by decide) (by decide) (by decide) (by decide) (by decide) hg8)
  have BF := Lib.hid (BW7.out.grown hg8 BW7.out.size (fun k hk => by cases hk; omega))
  obtain ⟨gA, gC, gone, ⟨org, pa, pc, path, next, med, pref, atomic, has, aas, aad, ca, cc, comms, ra0, rc, raws⟩, nA, nC, news⟩ := x
  have HRA := Lib.hid (cells13 (show Blk w8 (w.heap.size + 1) 30 [.slice gA gone.length gC, .int .i64 org, .slice pa path.length pc, .int .u32 next, .int .i64 med, .int .i64 pref, .bool atomic, .bool has, .int .u32 aas, .int .u32 aad, .slice ca comms.length cc, .slice ra0 raws.length rc, .slice nA news.length nC] from k8))
  clear k8 hg8
  go_wp2_with fail
  have ra := HRA.out
  have e4 := HJ.out.2.1
  refine bodyPost_ret (v := .tuple #[.slice A5 (updB l4 [] []).length c5, .agg (Uv.row ⟨gA, gC, gone, ⟨org, pa, pc, path, next, med, pref, atomic, has, aas, aad, ca, cc, comms, ra0, rc, raws⟩, nA, nC, news⟩).toArray, .int .i64 0]) ?_ rfl ⟨j, H1.out, HJ.out.1, A5, c5, ⟨gA, gC, gone, ⟨org, pa, pc, path, next, med, pref, atomic, has, aas, aad, ca, cc, comms, ra0, rc, raws⟩, nA, nC, news⟩, by rw [e4], ?_, HC5.out.2, ?_, HOX8.out, BF.out, HY.out.1, HY.out.2.1, HY.out.2.2.1, HY.out.2.2.2⟩
  · simp [results, Tryz.results15, go_sem, Uv.row, Av.row, ra]
  · rw [← e4]; exact HC5.out.1
  · rw [← e4]; exact row_lower O8.out HS45.out
end Go.Proofs.YtnaangnmlbgmkaaGreatDoor
