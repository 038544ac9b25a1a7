/-
  Texts of this seat, put together: Flows5W.
-/
import Derived.Test.YtnaangnmlbgmkaaGreatDoorPuts5WMg
import Derived.Test.YtnaangnmlbgmkaaGreatDoorBackK5Mg
import Derived.Test.YtnaangnmlbgmkaaGreatDoorFillB5Mg
import Derived.Test.YtnaangnmlbgmkaaGreatDoorFillN5Mg
import Derived.Test.YtnaangnmlbgmkaaGreatDoorUReadO5Mg
import Derived.Test.YtnaangnmlbgmkaaGreatDoorMg26
import Derived.Test.YtnaangnmlbgmkaaGreatDoorMg8
import Derived.Test.YtnaangnmlbgmkaaGreatDoorMg4
import Derived.Test.YtnaangnmlbgmkaaGreatDoorMg35
/-
  P5.4: bodies of any room, one behind the other, say just what was gone, and what was new, in order: the walk.
-/
namespace Go.Proofs.YtnaangnmlbgmkaaGreatDoor
set_option linter.unusedVariables false
set_option linter.unusedSimpArgs false
open Go.RowKit

/-- What holds at the head of the loop: of u the first parts were told, l is left. -/
structure FlI (W0 : World) (gL : Nat) (u l : Uv) (vg vn : Value) (G N : List Px) (j : Nat) (W : World) : Prop where
  bel : Below W0.heap.size W0 W
  blk : Blk W gL 30 l.row
  inn : l.In W W.heap.size
  gone : G ++ l.gone = u.gone
  news : N ++ l.news = u.news
  cnt : j + l.gone.length + l.news.length ≤ 120
  like : likeA l.attrs u.attrs ∨ (l.news = [] ∧ l.attrs = noneA)
  two : TwoP W W0.heap.size vg vn G N
  lt : W0.heap.size ≤ gL
theorem num_tot : ∀ (L : List Sg) (s : Sg), s ∈ L → s.nums.length ≤ totN L
  | [], s, h => by cases h
  | x :: L, s, h => by
    have e : totN (x :: L) = x.nums.length + totN L := by simp [totN]
    rcases List.mem_cons.1 h with rfl | h
    · omega
    · have := num_tot L s h
      omega
set_option maxRecDepth 100000 in
set_option maxHeartbeats 25600000 in
theorem UpdateFlows.walk (u : Uv) (k : Nat) (hk : k < 256) (W : World) (ht : TabK W) (hu : u.In W W.heap.size) (ha : AvArg W u.attrs) (hwt : Wt reachBytes u.attrs.path) :
    Calls Tryz.prog 5 #[.agg u.row.toArray, .int .u8 (k : Int)] W fun e w' => e = .returned (.bool true) ∧ Below W.heap.size W w' := by
  have hb1 := (Below.refl W.heap.size W).alloc (Nat.le_refl _) (.cells u.row.toArray 30)
  have kA := Blk.new W 30 u.row
  obtain ⟨W0, hW0⟩ : ∃ W0, W0 = W.alloc (.cells u.row.toArray 30) := ⟨_, rfl⟩
  rw [← hW0] at hb1 kA
  have HW0 := Lib.hid hW0; have HB1 := Lib.hid hb1
  have HQ := fun (w : World) (h : Below W0.heap.size W0 w) => hb1.trans (h.mono hb1.size)
  have HUV := Lib.hid (fun (w : World) (h : Below W0.heap.size W0 w) => uv_blk (kA.below h kA.lt))
  have HIN := Lib.hid (fun (w : World) (h : Below W0.heap.size W0 w) => (hu.below (HQ w h) (Nat.le_refl _)).lift (HQ w h).size)
  have HTK := Lib.hid (fun (w : World) (h : Below W0.heap.size W0 w) => ht.below (HQ w h) ht.lt)
  have QW := Lib.hid (fun (w : World) (h : Below W0.heap.size W0 w) => awake5_any w (HTK.out w h))
  have QFA := Lib.hid (fun (w : World) (h : Below W0.heap.size W0 w) => Few5_any u 60 w (HIN.out w h) (by decide))
  obtain ⟨N, hN⟩ := Int.eq_ofNat_of_zero_le ha.next.1
  have hNb : N < 4294967296 := by have := ha.next.2; omega
  have HCN := Lib.hid (fun (w : World) (h : Below W0.heap.size W0 w) => show w.cell? ⟨W.heap.size, 3, none⟩ = some (.int .u32 (N : Int)) by rw [← hN]; exact (kA.below h kA.lt).cell 3)
  have HNB := Lib.hid hNb; have HNN := Lib.hid hN; have HAV := Lib.hid ha; have HHU := Lib.hid hu; have HK := Lib.hid hk; have HHT := Lib.hid ht
  have HBW := Lib.hid HQ
  clear hb1 kA hW0 ha ht hu HQ hN hNb hk
  go_enter Tryz.func5, Tryz.ntmps5
  go_wp2_with (first
    | (refine wpList_boxU _ rfl (.tmp 0) rfl u rfl ?_)
    | (rw [← HW0.out]; refine wpList_loadU _ rfl (.tmp 2) rfl W.heap.size u rfl (HUV.out _ (Below.refl _ _)) ?_))
  refine (QFA.out _ (Below.refl _ _)).mono ?_
  rintro e w1 ⟨qa, rfl, hb1, hfa⟩
  have HA := Lib.hid hb1
  have cx := HCN.out _ hb1
  clear hb1
  cases qa with
  | false =>
    clear hfa
    go_wp2_with fail
    refine (QW.out _ HA.out).mono ?_
    rintro e w2 ⟨rfl, hb2⟩
    have HB2 := Lib.hid (below_two6 HB1.out ((below_two6 HA.out hb2)))
    clear hb2
    go_wp2_with fail
    go_ret
    exact ⟨rfl, HB2.out⟩
  | true =>
    obtain ⟨⟨_, _, b, hbe, hf, _⟩, hg, hn⟩ := hfa rfl
    obtain rfl : b = true := by simpa using hbe.symm
    obtain ⟨hf1, hf2, hf3, hf4⟩ := hf rfl
    have h2 : u.attrs.path.length ≤ 12 ∧ fewN u.attrs.path ≤ 300 := of_decide_eq_true hf1
    have htt := few_tot_le hf1 (fun s hs => Nat.le_trans (hwt s hs) (by unfold reachBytes; decide))
    have HGN := Lib.hid (And.intro hg hn)
    have QR := Lib.hid (RefRight4_any u.attrs w1 (HIN.out _ HA.out).attrs (by omega) (by omega) (by omega))
    clear hf1 hf2 hf3 hf4 h2 htt hfa hwt hbe hf hg hn
    cases hok : u.attrs.okB with
    | false =>
      rw [hok] at QR
      clear hok
      go_wp2_with (refine wpList_loadG _ (by rfl) (.tmp 20) rfl W.heap.size 1 u.attrs rfl (HUV.out _ HA.out).attrs ?_)
      refine QR.out.mono ?_
      rintro e w2 ⟨rfl, hb2⟩
      have HB := Lib.hid (below_two6 HA.out hb2)
      clear hb2
      go_wp2_with fail
      refine (QW.out _ HB.out).mono ?_
      rintro e w3 ⟨rfl, hb3⟩
      have HB3 := Lib.hid (below_two6 HB1.out ((below_two6 HB.out hb3)))
      clear hb3
      go_wp2_with fail
      go_ret
      exact ⟨rfl, HB3.out⟩
    | true =>
      rw [hok] at QR
      have HOK := Lib.hid hok
      have HSM := Lib.hid (show u.attrs.path.length ≤ 1000000 ∧ (∀ s ∈ u.attrs.path, s.nums.length ≤ 1000000000) ∧ u.attrs.comms.length ≤ 1000000 ∧ u.attrs.raws.length ≤ 1000000 ∧ ∀ s ∈ u.attrs.raws, s.data.length ≤ 1000000 from by
        obtain ⟨_, _, h3, h4, _, _, h7, h8, h9⟩ := okB_facts hok
        exact ⟨by omega, fun s hs => Nat.le_trans (num_tot _ s hs) (by omega), by omega, by omega, fun s hs => Nat.le_trans (raws_small5 _ _ h8 s hs) (by decide)⟩)
      clear hok
      go_wp2_with (refine wpList_loadG _ (by rfl) (.tmp 20) rfl W.heap.size 1 u.attrs rfl (HUV.out _ HA.out).attrs ?_)
      refine QR.out.mono ?_
      rintro e w2 ⟨rfl, hb2⟩
      have HB := Lib.hid (below_two6 HA.out hb2)
      clear hb2 cx QR
      have cx := HCN.out _ HB.out
      have QN := Lib.hid (RefNext_any N w2 HNB.out)
      cases hnx : nextB N with
      | false =>
        rw [hnx] at QN
        clear hnx
        go_wp2_with fail
        refine QN.out.mono ?_
        rintro e w3 ⟨rfl, rfl⟩
        go_wp2_with fail
        refine (QW.out _ HB.out).mono ?_
        rintro e w3 ⟨rfl, hb3⟩
        have HB3 := Lib.hid (below_two6 HB1.out ((below_two6 HB.out hb3)))
        clear hb3
        go_wp2_with fail
        go_ret
        exact ⟨rfl, HB3.out⟩
      | true =>
        rw [hnx] at QN
        have HNX := Lib.hid hnx
        clear hnx
        go_wp2_with fail
        refine QN.out.mono ?_
        rintro e w3 ⟨rfl, rfl⟩
        -- left is laid in a block of its own
        have kL := Blk.new w2 30 noneU
        have KL := Lib.hid kL
        clear kL
        go_wp2_with (first
          | (refine wpList_loadU _ rfl (.tmp 2) rfl W.heap.size u rfl (HUV.out _ HB.out) ?_)
          | (refine wpList_storeU _ rfl rfl (.tmp 5) (.tmp 33) rfl w2.heap.size 30 noneU u rfl rfl KL.out rfl ?_))
        intro w4 k4 hg4
        have hb4 : Below W0.heap.size W0 w4 := by
          have h1 : Below W0.heap.size W0 (w2.alloc (.cells noneU.toArray 30)) := HB.out.alloc HB.out.size _
          exact h1.grown hg4 h1.size (fun k hk => by cases hk; exact HB.out.size)
        have S0 := Lib.hid (show FlI W0 w2.heap.size u u (.slice none 0 0) (.slice none 0 0) [] [] 0 w4 from ⟨hb4, k4, HIN.out w4 hb4, rfl, rfl, by have := HGN.out; omega, Or.inl (likeA.refl _), TwoP.nil _ _, HB.out.size⟩)
        clear k4 hg4 hb4 cx QN KL
        generalize w2.heap.size = gL at *
        go_wp2_with fail
        go_loopw [6, 7, 8] (fun vg vn i wr => ∃ (j : Nat) (l : Uv) (G N' : List Px), i = .int .i64 (j : Int) ∧ Hid (FlI W0 gL u l vg vn G N' j wr)) (fun _ _ i _ => 200 - (intOf i).toNat)
        case atStart => exact ⟨0, u, [], [], rfl, S0⟩
        case round =>
          obtain ⟨j, l, G, N', rfl, S⟩ := hrel
          have cg := S.out.blk.cell 0
          have cn := S.out.blk.cell 12
          have cg0 : wr.cell? ⟨gL, 0, none⟩ = some (.slice l.goneA l.gone.length l.goneC) := cg
          have cn0 : wr.cell? ⟨gL, 12, none⟩ = some (.slice l.newsA l.news.length l.newsC) := cn
          have hcnt := S.out.cnt
          have hj : (j : Int) < 130 := by omega
          have hws : wrap64 ((l.gone.length : Int) + (l.news.length : Int)) = (l.gone.length : Int) + (l.news.length : Int) := by unfold wrap64; omega
          clear cg cn
          by_cases hz : l.gone.length + l.news.length = 0
          · have hzI : ¬ (0 : Int) < (l.gone.length : Int) + (l.news.length : Int) := by omega
            have hG : G = u.gone := by have h := S.out.gone; rw [List.eq_nil_of_length_eq_zero (show l.gone.length = 0 by omega), List.append_nil] at h; exact h
            have hNN : N' = u.news := by have h := S.out.news; rw [List.eq_nil_of_length_eq_zero (show l.news.length = 0 by omega), List.append_nil] at h; exact h
            subst hG hNN
            obtain ⟨gA, gc, rfl, _, _⟩ := own_form S.out.two.one
            obtain ⟨nA, nc, rfl, _, _⟩ := own_form S.out.two.two
            have cU := (HUV.out wr S.out.bel).gone
            have cV := (HUV.out wr S.out.bel).news
            have QG := Lib.hid (RefSameP_any gA u.goneA gc u.goneC u.gone u.gone wr (pxs_own S.out.two.one) (HIN.out wr S.out.bel).gone (by have := HGN.out; omega))
            rw [show decide (u.gone = u.gone) = true from decide_eq_true rfl] at QG
            clear hz hws hcnt
            go_wp2_with fail
            refine QG.out.mono ?_
            rintro e w5 ⟨rfl, hb5⟩
            have B5 := Lib.hid (S.out.bel.trans (hb5.mono S.out.bel.size))
            have cV5 := (HUV.out w5 B5.out).news
            have QN2 := Lib.hid (RefSameP_any nA u.newsA nc u.newsC u.news u.news w5 (pxs_own (row_below S.out.two.two hb5)) (HIN.out w5 B5.out).news (by have := HGN.out; omega))
            rw [show decide (u.news = u.news) = true from decide_eq_true rfl] at QN2
            clear hb5
            go_wp2_with fail
            refine QN2.out.mono ?_
            rintro e w6 ⟨rfl, hb6⟩
            have B6 := Lib.hid (B5.out.trans (hb6.mono B5.out.size))
            clear hb6
            go_wp2_with fail
            refine (QW.out _ B6.out).mono ?_
            rintro e w7 ⟨rfl, hb7⟩
            have B7 := Lib.hid (below_two6 HB1.out (below_two6 B6.out hb7))
            clear hb7
            go_wp2_with fail
            go_ret
            exact ⟨rfl, B7.out⟩
          · have hzI : (0 : Int) < (l.gone.length : Int) + (l.news.length : Int) := by omega
            have HLK := Lib.hid (show wrap64 (900 + (k : Int)) = 900 + (k : Int) by have := HK.out; unfold wrap64; omega)
            have hR : 900 ≤ (900 + (k : Int)) ∧ (900 + (k : Int)) ≤ 1200 := by have := HK.out; omega
            -- what is said of what is left
            obtain ⟨d, E, hdl, hdl2, hE, hputs, hrun⟩ : ∃ (d : List UInt8) (E : Int), d.length ≤ 100000 ∧ (l.news ≠ [] → d.length ≤ 5000) ∧ (l.news ≠ [] → E = 0) ∧ (∀ W', Below wr.heap.size wr W' → Calls Tryz.prog 44 #[.agg l.attrs.row.toArray, .bool true] W' (RetE W' d E)) ∧ (l.news ≠ [] → ∃ Sf, RunK (fun _ => true) true d rs0 Sf ∧ (1 ∈ Sf.kinds ∧ 2 ∈ Sf.kinds ∧ 3 ∈ Sf.kinds)) := by
              rcases S.out.like with hlk | ⟨hn0, hna⟩
              · have hav := avarg_like hlk HAV.out S.out.inn.attrs
                obtain ⟨d2, Sf, hp, hr2, hl2, hk2, _⟩ := back_all5 l.attrs wr (HTK.out wr S.out.bel) hav (by rw [okB_like hlk]; exact HOK.out) N (by rw [hlk.2.2.1]; exact HNN.out) HNX.out
                exact ⟨d2, 0, by omega, fun _ => by omega, fun _ => rfl, fun W' q' => (hp W' q').1.mono fun e w' h => rete_of_put h, fun _ => ⟨Sf, hr2, hk2⟩⟩
              · obtain ⟨d2, E2, _, hl2, hp⟩ := puts5 noneA true wr (HTK.out wr S.out.bel) (noneA_arg _) (by decide) (by decide) (by decide)
                exact ⟨d2, E2, hl2, fun h => absurd hn0 h, fun h => absurd hn0 h, fun W' q' => by rw [hna]; exact (hp W' q').1, fun h => absurd hn0 h⟩
            have hsm : l.attrs.path.length ≤ 1000000 ∧ (∀ s ∈ l.attrs.path, s.nums.length ≤ 1000000000) ∧ l.attrs.comms.length ≤ 1000000 ∧ l.attrs.raws.length ≤ 1000000 ∧ ∀ s ∈ l.attrs.raws, s.data.length ≤ 1000000 := by
              rcases S.out.like with hlk | ⟨_, hna⟩
              · exact like_small hlk HSM.out
              · rw [hna]; exact ⟨by decide, (fun s hs => by cases hs), by decide, by decide, (fun s hs => by cases hs)⟩
            have hlen : l.gone.length ≤ 1000 ∧ l.news.length ≤ 1000 := by omega
            by_cases hse : (sayF l d E).2 = 0
            · have hne : l.gone ≠ [] ∨ l.news ≠ [] := by
                by_cases h1 : l.gone = []
                · right
                  intro h2
                  rw [h1, h2] at hz
                  exact hz rfl
                · exact .inl h1
              have QF := Lib.hid (Fill_step l (900 + (k : Int)) wr (HTK.out wr S.out.bel) S.out.inn hR hsm hlen d E hdl2 hputs hse hne hrun)
              have HCNT := Lib.hid hcnt
              have hk := HLK.out
              clear hputs hsm hse hz hcnt hE hdl hdl2 hlen hne hrun
              go_wp2_with (refine wpList_loadU _ rfl (.tmp 5) rfl gL l rfl (uv_blk S.out.blk) ?_)
              refine QF.out.mono ?_
              rintro e w5 (⟨A5, n5, c5, x, rfl, hox, hb5, P1, P2, p1, p2, p3, p4, p5⟩ | ⟨x, rfl, hb5⟩)
              · have B5 := Lib.hid (S.out.bel.trans (hb5.mono S.out.bel.size))
                have HL5 := Lib.hid (S.out.blk.below hb5 S.out.blk.lt); have HT5 := Lib.hid (S.out.two.below hb5)
                have HOX := Lib.hid hox; have HP := Lib.hid (And.intro p1 (And.intro p2 (And.intro p3 p4))); have P5 := Lib.hid p5
                have HGL := Lib.hid (show gL < wr.heap.size from S.out.blk.lt)
                have HC := Lib.hid hb5.size
                have HV := Lib.hid S.out.two.lo
                clear hb5 QF hox p1 p2 p3 p4 p5 cg0 cn0
                go_wp2_with (refine wpList_storeU _ rfl rfl (.tmp 10) (.tmp 55) rfl w5.heap.size 30 noneU x rfl rfl (Blk.new w5 _ _) rfl ?_)
                intro w6 k6 hg6
                have b56 : Below w5.heap.size w5 w6 := ((Below.refl _ _).alloc (Nat.le_refl _) _).grown hg6 (by simp) (fun k hk => by cases hk; exact Nat.le_refl _)
                have B6 := Lib.hid (B5.out.trans (b56.mono B5.out.size))
                have HL6 := Lib.hid (HL5.out.below b56 HL5.out.lt); have HT6 := Lib.hid (HT5.out.below b56); have HX6 := Lib.hid (HOX.out.later b56); have HK6 := Lib.hid k6
                have QR := Lib.hid (P5.out w6 b56)
                have HS6 := Lib.hid (Nat.le_trans HC.out b56.size)
                have HGX := Lib.hid (show gL < w5.heap.size ∧ W0.heap.size ≤ w5.heap.size from ⟨HL5.out.lt, B5.out.size⟩)
                clear k6 hg6 b56 P5 HL5 HT5 HOX B5 HC
                generalize w5.heap.size = gX at *
                go_wp2_with fail
                refine QR.out.mono ?_
                rintro e w7 ⟨y, rfl, ⟨hyin, hyr⟩, hb7, e1, e2⟩
                have HL7 := Lib.hid (HL6.out.below hb7 HL6.out.lt); have HT7 := Lib.hid (HT6.out.below hb7); have HX7 := Lib.hid (HX6.out.later hb7); have HK7 := Lib.hid (HK6.out.below hb7 HK6.out.lt)
                have HY7 := Lib.hid (hyr : RowsP w6.heap.size w7 y); have HYI := Lib.hid hyin; have HE := Lib.hid (And.intro e1 e2)
                have B7 := Lib.hid (B6.out.trans (hb7.mono B6.out.size)); have HS7 := Lib.hid (Nat.le_trans HS6.out hb7.size)
                have HKX := Lib.hid (show gX < w7.heap.size from (HK6.out.below hb7 HK6.out.lt).lt)
                clear hyin hyr hb7 e1 e2 QR HL6 HT6 HX6 HK6 B6
                unfold fault0
                have kn8 : Blk ((w7.alloc (.cells noneU.toArray 30)).alloc (.cells #[.int .i64 0, .int .i64 0, .slice none 0 0] 43)) w7.heap.size 30 noneU := (Blk.new w7 _ _).below ((Below.refl _ _).alloc (Nat.le_refl _) _) (by simp)
                have kf8 : Blk ((w7.alloc (.cells noneU.toArray 30)).alloc (.cells #[.int .i64 0, .int .i64 0, .slice none 0 0] 43)) (w7.heap.size + 1) 43 [.int .i64 0, .int .i64 0, .slice none 0 0] := by
                  have := Blk.new (w7.alloc (.cells noneU.toArray 30)) 43 [.int .i64 0, .int .i64 0, .slice none 0 0]
                  simpa using this
                have hb8 : Below w7.heap.size w7 ((w7.alloc (.cells noneU.toArray 30)).alloc (.cells #[.int .i64 0, .int .i64 0, .slice none 0 0] 43)) := ((Below.refl _ _).alloc (Nat.le_refl _) _).alloc (by simp) _
                have HKN8 := Lib.hid kn8; have HKF8 := Lib.hid kf8; have HB8 := Lib.hid hb8
                clear kn8 kf8 hb8
                go_wp2_with (refine wpList_storeU _ rfl rfl (.tmp 14) (.tmp 76) rfl w7.heap.size 30 noneU y rfl rfl HKN8.out rfl ?_)
                intro w9 k9 hg9
                have kf9 := HKF8.out.grown hg9 (by omega)
                have b79 : Below w7.heap.size w7 w9 := HB8.out.grown hg9 (by simp; omega) (fun k hk => by cases hk; exact Nat.le_refl _)
                have HL9 := Lib.hid (HL7.out.below b79 HL7.out.lt); have HT9 := Lib.hid (HT7.out.below b79); have HX9 := Lib.hid (HX7.out.later b79); have HK9 := Lib.hid (HK7.out.below b79 HK7.out.lt)
                have HY9 := Lib.hid (HY7.out.later b79); have B9 := Lib.hid (B7.out.trans (b79.mono B7.out.size)); have HN9 := Lib.hid k9; have HF9 := Lib.hid kf9
                have HS9 := Lib.hid b79.size
                clear k9 hg9 kf9 b79 HKN8 HKF8 HB8 HL7 HT7 HX7 HK7 HY7 B7
                have hgN := HS7.out
                generalize w7.heap.size = gY at *
                have ff := free3 HF9.out
                have cf := cells3 HF9.out
                go_upto_region 13 with fail
                have hgf := grown_set3 w9 (gY + 1) (.int .i64 0) (.int .i64 0) (.slice none 0 0)
                have kf10 := HF9.out.set3 (.int .i64 0) (.int .i64 0) (.slice none 0 0)
                obtain ⟨W10, hW10⟩ : ∃ W10, W10 = ((w9.setCell ⟨gY + 1, 0, none⟩ (.int .i64 0)).setCell ⟨gY + 1, 1, none⟩ (.int .i64 0)).setCell ⟨gY + 1, 2, none⟩ (.slice none 0 0) := ⟨_, rfl⟩
                rw [← hW10] at hgf kf10 ⊢
                have rf : W10.cell? ⟨gY + 1, 0, none⟩ = some (.int .i64 0) := kf10.cell 0
                have hLgt := HGL.out; have hXgt := HGX.out; have hKX := HKX.out
                have HL10 := Lib.hid (HL9.out.grown hgf (by omega)); have HK10 := Lib.hid (HK9.out.grown hgf (by omega)); have HN10 := Lib.hid (HN9.out.grown hgf (by omega))
                have HT10 := Lib.hid (HT9.out.keep HF9.out (by decide) hgf)
                have HX10 := Lib.hid (HX9.out.keeps HF9.out (by decide) (by decide) (by decide) (by decide) (by decide) hgf)
                have HY10 := Lib.hid (show RowsP wr.heap.size W10 y from ⟨row_lower (row_keep HY9.out.1 HF9.out (by decide) hgf) HS6.out, row_lower (row_keep HY9.out.2 HF9.out (by decide) hgf) HS6.out⟩)
                have B10 := Lib.hid (show Below W0.heap.size W0 W10 from B9.out.grown hgf (B9.out.size) (fun k hk => by cases hk; omega))
                have yg : W10.cell? ⟨gY, 0, none⟩ = some (.slice y.goneA y.gone.length y.goneC) := (uv_blk HN10.out).gone
                have yn : W10.cell? ⟨gY, 12, none⟩ = some (.slice y.newsA y.news.length y.newsC) := (uv_blk HN10.out).news
                have hyl : 1 ≤ y.gone.length + y.news.length ∧ y.gone.length ≤ 120 ∧ y.news.length ≤ 120 ∧ G.length ≤ 60 ∧ N'.length ≤ 60 := by
                  have h1 := HP.out.1; have h2 := HP.out.2.1; have h3 := HP.out.2.2.1; have h4 := HCNT.out; have h5 := S.out.gone; have h6 := S.out.news; have h7 := HGN.out
                  have l1 := congrArg List.length h1; have l2 := congrArg List.length h2; have l5 := congrArg List.length h5; have l6 := congrArg List.length h6
                  simp only [List.length_append] at l1 l2 l5 l6
                  rw [HE.out.1, HE.out.2]
                  omega
                have HYL := Lib.hid hyl
                have hsz : ¬ ((y.gone.length : Int) + (y.news.length : Int) = 0) := by omega
                have hsb : ((y.gone.length : Int) + (y.news.length : Int) == 0) = false := by rw [beq_eq_false_iff_ne]; exact hsz
                have hws2 : wrap64 ((y.gone.length : Int) + (y.news.length : Int)) = (y.gone.length : Int) + (y.news.length : Int) := by unfold wrap64; omega
                have HW10 := Lib.hid hW10
                clear hgf kf10 hW10 ff cf hLgt hXgt hKX hyl hgN HL9 HT9 HX9 HK9 HY9 HN9 HF9 B9 hws
                go_upto_region 15 with fail
                have hdw := Below.drew (Below.refl W10.heap.size W10)
                have yg := yg; have yn := yn
                have HT := Lib.hid (HT10.out.below hdw); have HX := Lib.hid (HX10.out.later hdw); have HY := Lib.hid (HY10.out.later hdw)
                have HL := Lib.hid (show Blk W10.drew gL 30 l.row from HL10.out); have HK := Lib.hid (show Blk W10.drew gX 30 x.row from HK10.out); have HN := Lib.hid (show Blk W10.drew gY 30 y.row from HN10.out)
                have HB := Lib.hid (show Below W0.heap.size W0 W10.drew from B10.out.drew)
                clear hdw HT10 HX10 HY10 HL10 HK10 HN10 B10 hsz hsb hws2 rf
                go_region_law ((first
                  | (refine step_appendP rfl (.tmp 91) (.tmp 93) (by rfl) W0.heap.size _ G (by rfl) HT.out.one y.goneA y.goneC y.gone (by rfl) (pxs_own HY.out.1) (by have := HYL.out; omega) HB.out.size ?_; intro v1 w1 h1 h2 h3; have hk := kept_own HT.out.one h2 (fun k hk => HV.out.1 k hk); have HB := Lib.hid (HB.out.trans (grown_own_below h2 (fun k hk => (World.ownsRow.lt HT.out.one k hk).1) HB.out.size)); have HT := Lib.hid (HT.out.grow1 h1 h2 h3); have HX := Lib.hid (hk.uv _ HX.out); have HY := Lib.hid (hk.rows _ HY.out); have HL := Lib.hid (hk.blk _ _ HL.out); have HK := Lib.hid (hk.blk _ _ HK.out); have HN := Lib.hid (hk.blk _ _ HN.out); have yg := (uv_blk HN.out).gone; have yn := (uv_blk HN.out).news; clear hk h1 h2 h3)
                  | (refine step_appendP rfl (.tmp 95) (.tmp 97) (by rfl) W0.heap.size _ N' (by rfl) HT.out.two y.newsA y.newsC y.news (by rfl) (pxs_own HY.out.2) (by have := HYL.out; omega) HB.out.size ?_; intro v2 w2 h1 h2 h3; have hk := kept_own HT.out.two h2 (fun k hk => HV.out.2 k hk); have HB := Lib.hid (HB.out.trans (grown_own_below h2 (fun k hk => (World.ownsRow.lt HT.out.two k hk).1) HB.out.size)); have HT := Lib.hid (HT.out.grow2 h1 h2 h3); have HX := Lib.hid (hk.uv _ HX.out); have HY := Lib.hid (hk.rows _ HY.out); have HL := Lib.hid (hk.blk _ _ HL.out); have HK := Lib.hid (hk.blk _ _ HK.out); have HN := Lib.hid (hk.blk _ _ HN.out); have yg := (uv_blk HN.out).gone; have yn := (uv_blk HN.out).news; clear hk h1 h2 h3)))
                all_goals
                  clear yg yn
                  go_wp2_with (first
                    | (refine wpList_loadU _ rfl (.tmp 10) rfl gX x rfl (uv_blk HK.out) ?_)
                    | (refine wpList_storeU _ rfl rfl (.tmp 5) (.tmp 99) rfl gL 30 l.row x rfl rfl HL.out rfl ?_))
                  intro w12 k12 hg12
                  have S2 := Lib.hid (show FlI W0 gL u x _ _ (G ++ y.gone) (N' ++ y.news) (j + 1) w12 from
                    ⟨HB.out.trans (below_of_grown hg12 HB.out.size S.out.lt), k12, (HX.out.keeps HL.out (by decide) (by decide) (by decide) (by decide) (by decide) hg12).inn,
                      by rw [HE.out.1, List.append_assoc, HP.out.1]; exact S.out.gone, by rw [HE.out.2, List.append_assoc, HP.out.2.1]; exact S.out.news,
                      by
                        have h1 := HP.out.1; have h2 := HP.out.2.1; have h3 := HP.out.2.2.1; have h4 := HCNT.out
                        have l1 := congrArg List.length h1; have l2 := congrArg List.length h2
                        simp only [List.length_append] at l1 l2
                        omega,
                      by
                        rcases HP.out.2.2.2 with ⟨q1, q2⟩ | q
                        · rcases S.out.like with z | ⟨z, _⟩
                          · exact .inl (q2.trans z)
                          · exact absurd (by have h2 := HP.out.2.1; rw [z] at h2; exact (List.append_eq_nil_iff.1 h2).2) q1
                        · exact .inr q,
                      HT.out.keep HL.out (by decide) hg12, S.out.lt⟩)
                  clear k12 hg12
                  go_wp2_with fail
                  go_roundw
                  case rel => exact ⟨j + 1, x, _, _, by go_num, S2⟩
                  case measure => have hm := HCNT.out; have hm2 := hzI; simp [intOf] at hm ⊢; try omega
              · have B5 := Lib.hid (S.out.bel.trans (hb5.mono S.out.bel.size))
                clear hb5 QF
                go_wp2_with (first
                  | (refine wpList_storeU _ rfl rfl (.tmp 10) (.tmp 55) rfl w5.heap.size 30 noneU x rfl rfl (Blk.new w5 _ _) rfl ?_))
                intro w6 k6 hg6
                have B6 := Lib.hid (show Below W0.heap.size W0 w6 from (B5.out.alloc B5.out.size _).grown hg6 (Nat.le_trans B5.out.size (by simp)) (fun k hk => by cases hk; exact B5.out.size))
                clear k6 hg6
                obtain ⟨d3, Sf, hp3, _, hl3, _⟩ := back_all5 u.attrs W HHT.out HAV.out HOK.out N HNN.out HNX.out
                have QP := Lib.hid (RefUPut_any u true w6 (HIN.out w6 B6.out) (by have := HGN.out; omega) d3 0 (.inl rfl) (by omega) (fun W' q' => (hp3 W' ((HBW.out w6 B6.out).trans (q'.mono (HBW.out w6 B6.out).size))).2.mono fun e w' h => rete_of_put h))
                obtain ⟨pl, hpl⟩ : ∃ pl, pl = putF u d3 0 := ⟨_, rfl⟩
                rw [← hpl] at QP
                clear hp3 hl3 hpl
                go_wp2_with (refine wpList_loadU _ rfl (.tmp 2) rfl W.heap.size u rfl (HUV.out _ B6.out) ?_)
                refine QP.out.mono ?_
                rintro e w7 ⟨A7, c7, rfl, f7, g7, ho7, hb7⟩
                have B7 := Lib.hid (B6.out.trans (hb7.mono B6.out.size))
                clear ho7 hb7 f7 g7
                go_wp2_with fail
                refine (QW.out _ B7.out).mono ?_
                rintro e w8 ⟨rfl, hb8⟩
                have B8 := Lib.hid (below_two6 HB1.out (below_two6 B7.out hb8))
                clear hb8
                go_wp2_with fail
                go_ret
                exact ⟨rfl, B8.out⟩
            · have QF := Lib.hid (Fill_bad l true (900 + (k : Int)) wr S.out.inn hR hsm hlen d E hputs hse)
              -- the document tells 1, too
              have hsl : (sayF l d E).2 = 1 ∧ ∀ d2 : List UInt8, (sayF u d2 0).2 = 1 := by
                by_cases hn0 : l.news = []
                · have h1 : (pxsOk l.gone && pxsOk l.news) = false := by
                    cases hb : (pxsOk l.gone && pxsOk l.news) with
                    | false => rfl
                    | true => exact absurd (by unfold sayF; rw [if_pos hb, if_pos hn0]) hse
                  have h2 : (sayF l d 0).2 ≠ 0 := by unfold sayF; rw [if_neg (by rw [h1]; decide)]; decide
                  exact ⟨by unfold sayF; rw [if_neg (by rw [h1]; decide)], fun d2 => (say_left (d2 := d2) S.out.gone S.out.news h2).1⟩
                · have e0 := hE hn0
                  rw [e0] at hse ⊢
                  exact ⟨(say_left (d2 := d) S.out.gone S.out.news hse).2, fun d2 => (say_left (d2 := d2) S.out.gone S.out.news hse).1⟩
              obtain ⟨d3, Sf, hp3, _, hl3, _⟩ := back_all5 u.attrs W HHT.out HAV.out HOK.out N HNN.out HNX.out
              have hpf := (putF_all u d3 0).1 (by rw [hsl.2 d3]; decide)
              rw [hsl.2 d3] at hpf
              have QP := Lib.hid (fun (w : World) (h : Below W0.heap.size W0 w) => RefUPut_any u true w (HIN.out w h) (by have := HGN.out; omega) d3 0 (.inl rfl) (by omega) (fun W' q' => (hp3 W' ((HBW.out w h).trans (q'.mono (HBW.out w h).size))).2.mono fun e w' h => rete_of_put h))
              rw [hpf] at QP
              rw [hsl.1] at QF
              have hk := HLK.out
              clear hputs hsm hsl hse hp3 hpf hz hcnt
              go_wp2_with (refine wpList_loadU _ rfl (.tmp 5) rfl gL l rfl (uv_blk S.out.blk) ?_)
              refine QF.out.mono ?_
              rintro e w5 ⟨x, rfl, hb5⟩
              have B5 := Lib.hid (S.out.bel.trans (hb5.mono S.out.bel.size))
              clear hb5 QF
              go_wp2_with (first
                | (refine wpList_storeU _ rfl rfl (.tmp 10) (.tmp 55) rfl w5.heap.size 30 noneU x rfl rfl (Blk.new w5 _ _) rfl ?_))
              intro w6 k6 hg6
              have B6 := Lib.hid (show Below W0.heap.size W0 w6 from (B5.out.alloc B5.out.size _).grown hg6 (Nat.le_trans B5.out.size (by simp)) (fun k hk => by cases hk; exact B5.out.size))
              clear k6 hg6
              go_wp2_with (refine wpList_loadU _ rfl (.tmp 2) rfl W.heap.size u rfl (HUV.out _ B6.out) ?_)
              refine (QP.out _ B6.out).mono ?_
              rintro e w7 ⟨A7, c7, rfl, f7, g7, ho7, hb7⟩
              have B7 := Lib.hid (B6.out.trans (hb7.mono B6.out.size))
              clear ho7 hb7 f7 g7
              go_wp2_with fail
              refine (QW.out _ B7.out).mono ?_
              rintro e w8 ⟨rfl, hb8⟩
              have B8 := Lib.hid (below_two6 HB1.out (below_two6 B7.out hb8))
              clear hb8
              go_wp2_with fail
              go_ret
              exact ⟨rfl, B8.out⟩
end Go.Proofs.YtnaangnmlbgmkaaGreatDoor
