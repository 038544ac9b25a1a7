/-
  A path in narrow numbers, and one in wide ones, together, by the document (written by gen03rm.py).
-/
import Derived.Test.YtiegfellgnfiiaaDoorMerge3
import Derived.Test.YtiegfellgnfiiaaDoorRight3
import Derived.Test.YtiegfellgnfiiaaDoorOne32
namespace Go.Proofs.YtiegfellgnfiiaaDoor
set_option linter.unusedVariables false
set_option linter.unusedSimpArgs false
open Go.RowKit

theorem own_ok {w : World} {B : Nat} {s : Sg} (h : Own32 w B s.sl s.nums) (hf : s.Fit) : Sg.Ok w w.heap.size s := by
  obtain ⟨A', c', hsl, g1, g2⟩ := h.form
  obtain ⟨k, A, c, z⟩ := s
  simp only [Sg.sl, Value.slice.injEq] at hsl
  obtain ⟨h1, h2, h3⟩ := hsl
  subst h1 h3
  exact ⟨g1, g2, Own32.at h, hf.1, hf.2⟩
theorem segs_row2 {w : World} {B n c : Nat} {A : Option Addr} {M : List Sg} (hrow : w.ownsRow B 53 2 (.slice A n c) M.length (flatS M)) (hok : ∀ s ∈ M, Sg.Ok w w.heap.size s) : Segs w w.heap.size A M := by
  intro hl
  rcases hrow.2 with ⟨hv, hn⟩ | ⟨g, cap, cur, hv, hbg, hg, hnc, hcm, hcs, htake⟩
  · exact absurd (List.eq_nil_of_length_eq_zero hn) hl
  · have hA : A = some ⟨g, 0, none⟩ := by injection hv
    refine ⟨g, 0, hA, (Array.getElem?_eq_some_iff.1 hg).1, fun j s hj => ?_⟩
    have hc := World.ownsRow.cells hrow (g := g) (by subst hA; rfl)
    have f := flat_at M j s hj
    have c1 := hc (j * 2) _ f.1
    have c2 := hc (j * 2 + 1) _ f.2
    rw [Addr.add_lit] at c1 c2
    exact ⟨c1, c2, hok s (List.mem_of_getElem? hj)⟩
theorem segs_news {w : World} {B : Nat} {A : Option Addr} {M : List Sg} (h : Segs w B A M) : M.length ≠ 0 → ∃ ad, A = some ad ∧ ∀ j u, (flatS M)[j]? = some u → w.cell? (ad.add j) = some u := by
  intro hn
  obtain ⟨b, off, rfl, _, hc⟩ := h (by intro e; rw [e] at hn; exact hn rfl)
  refine ⟨_, rfl, fun j u hu => ?_⟩
  have hj := (List.getElem?_eq_some_iff.1 hu).1
  rw [flat_len] at hj
  obtain ⟨s, hs⟩ : ∃ s, M[j / 2]? = some s := ⟨_, List.getElem?_eq_getElem (show j / 2 < M.length by omega)⟩
  have f := flat_at M (j / 2) s hs
  have c := hc (j / 2) s hs
  rw [Addr.add_lit]
  rcases (show j = j / 2 * 2 ∨ j = j / 2 * 2 + 1 by omega) with e | e
  · rw [e, f.1] at hu
    cases hu
    rw [e]
    exact c.1
  · rw [e, f.2] at hu
    cases hu
    rw [e, ← Nat.add_assoc]
    exact c.2.1
def RMergeRel (w : World) (L : List Sg) (d : Nat) (c v i : Value) (wr : World) : Prop :=
  Below w.heap.size w wr ∧ ∃ (M : List Sg) (H j n : Nat), j ≤ L.length ∧ i = .int .i64 (j : Int) ∧ c = .int .i64 (n : Int) ∧ n ≤ d ∧ OwnSegs wr w.heap.size H v M ∧ w.heap.size ≤ H ∧ H ≤ wr.heap.size ∧ M.length ≤ j ∧ Hid (M.map Sg.abs ++ begL ((L.drop j).map Sg.abs) n = begL (L.map Sg.abs) d)
def RMergeIn (W2 : World) (h : Nat) (K : Int) (nums : List Nat) (lim : Nat) (i : Value) (wr : World) : Prop :=
  Below h W2 wr ∧ ∃ (v : Value) (k : Nat), k ≤ lim ∧ i = .int .i64 (k : Int) ∧ Blk wr h 53 [.int .i64 K, v] ∧ Own32 wr (h + 1) v (nums.take k)

set_option maxHeartbeats 25600000 in
set_option maxRecDepth 100000 in
theorem RefMerge3_any (A A' : Option Addr) (c c' : Nat) (L N : List Sg) (w : World) (h : Segs w w.heap.size A L) (h' : Segs w w.heap.size A' N) (hc : L.length ≤ c) (hm : c ≤ maxLen) (hc' : N.length ≤ c') (hm' : c' ≤ maxLen)
    (ht : totN L ≤ 1048576) (hL : L.length ≤ 12) (ht' : totN N ≤ 1048576) (hN : N.length ≤ 12) :
    Calls Tryd.prog 40 #[.slice A L.length c, .slice A' N.length c'] w (RetSegs w (mergeL (L.map Sg.abs) (N.map Sg.abs))) := by
  have HS := Lib.hid h; have HS' := Lib.hid h'
  have HSELF := Lib.hid (fun (W : World) (hB : Below w.heap.size w W) => show RetSegs w (L.map Sg.abs) (.returned (.slice A L.length c)) W from ⟨L, A, c, rfl, rfl, hc, hm, (h.below hB (Nat.le_refl _)).lift hB.size, hB⟩)
  have Q1 := Lib.hid (RefRight_any A c L w h hc hm (by omega))
  have Q2 := Lib.hid (RefRight_any A' c' N w h' hc' hm' (by omega))
  have Q3 := Lib.hid (RefCount_any A c L w h hc hm (by omega))
  have Q4 := Lib.hid (RefCount_any A' c' N w h' hc' hm' (by omega))
  have hcl := cnt_le L
  have hcn := cnt_le N
  have e1 := cnt_abs L
  have e2 := cnt_abs N
  obtain ⟨x, hx⟩ : ∃ x, x = cntN L := ⟨_, rfl⟩
  obtain ⟨y, hy⟩ : ∃ y, y = cntN N := ⟨_, rfl⟩
  rw [← hx] at Q3 e1 hcl
  rw [← hy] at Q4 e2 hcn
  have hxb : (x : Int) ≤ 2000000 := by omega
  have hyb : (y : Int) ≤ 2000000 := by omega
  have HX := Lib.hid e1; have HY := Lib.hid e2
  clear h h' hx hy e1 e2 hcl hcn
  by_cases hn0 : N.length = 0
  · have hnz : ((N.length : Int) == 0) = true := by rw [hn0]; rfl
    have HE := Lib.hid (show mergeL (L.map Sg.abs) (N.map Sg.abs) = L.map Sg.abs by unfold mergeL; rw [if_pos (.inr (.inl (by rw [List.eq_nil_of_length_eq_zero hn0]; rfl)))])
    clear hn0
    go_enter Tryd.func40, Tryd.ntmps40
    go_wp2_with fail
    go_ret
    rw [HE.out]
    exact HSELF.out _ (Below.refl _ _)
  · have hnz : ((N.length : Int) == 0) = false := by simpa using hn0
    have HN0 := Lib.hid hn0
    clear hn0
    cases hr : rightB L with
    | false =>
      rw [hr] at Q1
      have HE := Lib.hid (show mergeL (L.map Sg.abs) (N.map Sg.abs) = L.map Sg.abs by unfold mergeL; rw [if_pos (.inr (.inr (.inl (by rw [← right_abs]; exact hr))))])
      clear hr
      go_enter Tryd.func40, Tryd.ntmps40
      go_wp2_with fail
      refine Q1.out.mono ?_
      rintro e w1 ⟨rfl, rfl⟩
      go_wp2_with fail
      go_ret
      rw [HE.out]
      exact HSELF.out _ (Below.refl _ _)
    | true =>
      rw [hr] at Q1
      cases hr' : rightB N with
      | false =>
        rw [hr'] at Q2
        have HE := Lib.hid (show mergeL (L.map Sg.abs) (N.map Sg.abs) = L.map Sg.abs by unfold mergeL; rw [if_pos (.inr (.inr (.inr (by rw [← right_abs]; exact hr'))))])
        clear hr hr'
        go_enter Tryd.func40, Tryd.ntmps40
        go_wp2_with fail
        refine Q1.out.mono ?_
        rintro e w1 ⟨rfl, rfl⟩
        go_wp2_with fail
        refine Q2.out.mono ?_
        rintro e w1 ⟨rfl, rfl⟩
        go_wp2_with fail
        go_ret
        rw [HE.out]
        exact HSELF.out _ (Below.refl _ _)
      | true =>
        rw [hr'] at Q2
        by_cases hlt : x < y
        · have hltI : (x : Int) < (y : Int) := by omega
          have HE := Lib.hid (show mergeL (L.map Sg.abs) (N.map Sg.abs) = L.map Sg.abs by unfold mergeL; rw [← HX.out, ← HY.out, if_pos (.inl hlt)])
          clear hr hr' hlt
          go_enter Tryd.func40, Tryd.ntmps40
          go_wp2_with fail
          refine Q1.out.mono ?_
          rintro e w1 ⟨rfl, rfl⟩
          go_wp2_with fail
          refine Q2.out.mono ?_
          rintro e w1 ⟨rfl, rfl⟩
          go_wp2_with fail
          refine Q4.out.mono ?_
          rintro e w1 ⟨rfl, rfl⟩
          go_wp2_with fail
          refine Q3.out.mono ?_
          rintro e w1 ⟨rfl, rfl⟩
          go_wp2_with fail
          go_ret
          rw [HE.out]
          exact HSELF.out _ (Below.refl _ _)
        · have hltI : ¬ (x : Int) < (y : Int) := by omega
          obtain ⟨d, hd⟩ : ∃ d, d = x - y := ⟨_, rfl⟩
          have hdI : (x : Int) - (y : Int) = (d : Int) := by omega
          have HD := Lib.hid hd
          have HNLT := Lib.hid hlt
          have hdb : (d : Int) ≤ 2000000 := by omega
          have hk := Lib.hid (fun (s : Sg) (hs : s ∈ L) => (right_parts hr).2.2 s hs)
          have HR2 := Lib.hid (And.intro (rightA_bounds hr) (rightA_bounds hr'))
          have HMG := Lib.hid (show mergeL (L.map Sg.abs) (N.map Sg.abs) = if rightA (begL (L.map Sg.abs) d ++ N.map Sg.abs) = true then begL (L.map Sg.abs) d ++ N.map Sg.abs else L.map Sg.abs by
            unfold mergeL
            rw [← HX.out, ← HY.out, ← HD.out, if_neg]
            intro e
            rcases e with e | e | e | e
            · exact HNLT.out e
            · exact HN0.out (by simpa using congrArg List.length e)
            · rw [← right_abs, hr] at e; cases e
            · rw [← right_abs, hr'] at e; cases e)
          clear hr hr' hlt hd
          go_enter Tryd.func40, Tryd.ntmps40
          go_wp2_with fail
          refine Q1.out.mono ?_
          rintro e w1 ⟨rfl, rfl⟩
          go_wp2_with fail
          refine Q2.out.mono ?_
          rintro e w1 ⟨rfl, rfl⟩
          go_wp2_with fail
          refine Q4.out.mono ?_
          rintro e w1 ⟨rfl, rfl⟩
          go_wp2_with fail
          refine Q3.out.mono ?_
          rintro e w1 ⟨rfl, rfl⟩
          go_wp2_with fail
          refine Q3.out.mono ?_
          rintro e w1 ⟨rfl, rfl⟩
          go_wp2_with fail
          refine Q4.out.mono ?_
          rintro e w1 ⟨rfl, rfl⟩
          go_wp2_with fail
          go_loopw [5, 6, 7] (fun c v i wr => RMergeRel w L d c v i wr) (fun _ _ i _ => L.length - (intOf i).toNat)
          case atStart => exact ⟨Below.refl _ _, [], w.heap.size, 0, d, by omega, rfl, by first | rfl | go_num, Nat.le_refl _, OwnSegs.nil _ _ _, Nat.le_refl _, Nat.le_refl _, by simp, Lib.hid (by simp)⟩
          case round =>
            obtain ⟨hbr, M, H, j, n, hj, rfl, rfl, hnN, hown, hH, hH2, hMl, hab⟩ := hrel
            obtain ⟨wo, rfl⟩ : ∃ x : World, x = wr := ⟨wr, rfl⟩
            by_cases hgo : j < L.length ∧ 0 < n
            · obtain ⟨hlt, hn⟩ := hgo
              obtain ⟨s, hs⟩ : ∃ s, L[j]? = some s := ⟨_, List.getElem?_eq_getElem hlt⟩
              obtain ⟨b, off, rfl, hb2, k1, k2, hok⟩ := (HS.out.below hbr (Nat.le_refl _)).at hs
              have hkd := hk.out s (List.mem_of_getElem? hs)
              have hjb : (j : Int) ≤ 12 := by omega
              have hi0 : (0 : Int) ≤ (j : Int) := by omega
              have hi1 : (j : Int) < (L.length : Int) := by omega
              have hnD : decide (0 < n) = true := decide_eq_true hn
              have hnb : (n : Int) ≤ 2000000 := by omega
              have hdr := drop_seg hs
              have hab2 := hab.out
              rw [hdr] at hab2
              simp only [begL] at hab2
              rw [if_neg (show ¬ n = 0 by omega)] at hab2
              have HBR := Lib.hid hbr; have HOW := Lib.hid hown; have HML := Lib.hid hMl; have HLT := Lib.hid hlt; have HNN := Lib.hid hnN; have HN1 := Lib.hid hn
              have HSS := Lib.hid hs
              have HFIT := Lib.hid (show Sg.Fit s from hok.2.2.2)
              have HBA := Lib.hid ((Below.refl wo.heap.size wo).alloc (Nat.le_refl _) (.cells #[.int .i64 s.kind, .slice none 0 0] 53))
              have HBK := Lib.hid (Blk.new wo 53 [.int .i64 s.kind, .slice none 0 0])
              have HJ64 := Lib.hid hkd.2.2
              clear hok hown hMl hbr hab hdr hlt hnN
              by_cases hs2 : s.kind = 2
              · have es : (s.kind == 1) = false := by simpa using (show ¬ s.kind = 1 by omega)
                have HN := Lib.hid (show M.map Sg.abs ++ ((s.kind, s.nums.take (min n s.nums.length)) :: begL ((L.drop (j + 1)).map Sg.abs) (n - s.nums.length)) = begL (L.map Sg.abs) d by
                  rw [if_pos (show s.abs.1 = 2 from hs2)] at hab2
                  rw [show s.nums.take (min n s.nums.length) = s.nums.take n by rw [← List.take_take, List.take_length], hs2]
                  exact hab2)
                obtain ⟨lim, hlim⟩ : ∃ lim, lim = min n s.nums.length := ⟨_, rfl⟩
                rw [← hlim] at HN
                have hle : lim ≤ s.nums.length ∧ lim ≤ n ∧ (lim = n ∨ lim = s.nums.length) := by omega
                have HLE := Lib.hid hle
                clear hs2 hab2 hkd hs hlim hle
                go_wp2_with fail
                go_loopw [9] (fun i wr' => RMergeIn wo wo.heap.size s.kind s.nums lim i wr') (fun i _ => lim - (intOf i).toNat)
                case atStart => exact ⟨HBA.out, _, 0, Nat.zero_le _, rfl, HBK.out, by simpa using Own32.nil _ _⟩
                case round =>
                  obtain ⟨hbi, v, k, hk9, rfl, hblk, hown⟩ := hrel
                  obtain ⟨b3, off3, hAe, hb3, k3, k4, hok⟩ := (HS.out.below (HBR.out.trans (hbi.mono HBR.out.size)) (Nat.le_refl _)).at HSS.out
                  cases hAe
                  have c0 : wr.cell? ⟨wo.heap.size, 0, none⟩ = some (.int .i64 s.kind) := hblk.cell 0
                  have hkb : (k : Int) ≤ 64 := by have := HLE.out.1; have := HJ64.out; omega
                  by_cases hlt2 : k < lim
                  · obtain ⟨b4, off4, hA4, hb4, k5⟩ := hok.2.2.1.cell (k := k) (by have := HLE.out.1; omega)
                    have HTK := Lib.hid (take_num32 (z := s.nums) (k := k) (by have := HLE.out.1; omega))
                    obtain ⟨x9, hx9⟩ : ∃ x, x = s.nums.getD k 0 := ⟨_, rfl⟩
                    rw [← hx9] at k5 HTK
                    rw [hA4] at k4
                    have c1 : wr.cell? ⟨wo.heap.size, 1, none⟩ = some v := hblk.cell 1
                    have c1a : (wr.alloc (.cells #[.int .u32 (x9 : Int)] 23)).cell? ⟨wo.heap.size, 1, none⟩ = some v := (((Below.refl wr.heap.size wr).alloc (Nat.le_refl _) _).cell (p := ⟨wo.heap.size, 1, none⟩) hblk.lt).trans c1
                    have hy0 : (0 : Int) ≤ (k : Int) := by omega
                    have hy1 : (k : Int) < (s.nums.length : Int) := by have := HLE.out.1; omega
                    have hkn : (k : Int) < (n : Int) := by have := HLE.out.2.1; omega
                    have HKL := Lib.hid hlt2
                    have HO := Lib.hid (show Own32 wr.drew (wo.heap.size + 1) v (s.nums.take k) from World.ownsRow.drew hown)
                    have HZ5 := Lib.hid (show wo.heap.size + 1 ≤ wr.drew.heap.size from hblk.lt)
                    have HSZ := Lib.hid (show (s.nums.take k).length + 1 ≤ 100000000000 by rw [List.length_take]; have := HJ64.out; omega)
                    have HVB := Lib.hid (show some wo.heap.size ≠ v.ownBlock from fun e => by
                      have := (World.ownsRow.lt hown _ e.symm).1
                      omega)
                    have HOL := Lib.hid (fun (q : Nat) (hq : v.ownBlock = some q) => (show wo.heap.size ≤ q from by
                      have := (World.ownsRow.lt hown q hq).1
                      omega))
                    have HBL := Lib.hid hblk; have HBD := Lib.hid hbi.drew
                    clear hok hblk hown hbi hlt2 hx9 hA4
                    go_wp2_with fail
                    go_region_law ((refine step_num32 (by rfl) (.tmp 73) (.tmp 82) (by rfl) (wo.heap.size + 1) v (s.nums.take k) (by rfl) wr.drew x9 rfl HO.out (by rfl) HSZ.out HZ5.out ?_; intro v6 w6 ho6 hg6; have hk6 := (hg6.block _ HZ5.out HVB.out).trans HBL.out; have c6 : w6.cell? ⟨wo.heap.size, 1, none⟩ = some v := Blk.cell hk6 1; have f6 : w6.frozen? ⟨wo.heap.size, 1, none⟩ = false := Blk.free hk6 1; have HK6 := Lib.hid hk6; rw [← HTK.out] at ho6; obtain ⟨z9, hz9⟩ : ∃ z9, z9 = s.nums.take (k + 1) := ⟨_, rfl⟩; rw [← hz9] at ho6; have HZ9 := Lib.hid hz9; clear hz9; obtain ⟨A6, d6, rfl, q1, q2⟩ := ho6.form; have HO6 := Lib.hid ho6; have HG6 := Lib.hid hg6; clear hk6 ho6 hg6))
                    all_goals
                      have hk7 := Lib.hid (Blk.set (show Blk w6 wo.heap.size 53 [.int .i64 s.kind, v] from HK6.out) 1 (.slice A6 z9.length d6))
                      have hb7 := Lib.hid ((HBD.out.grown HG6.out (Nat.le_of_succ_le HZ5.out) (fun q hq => HOL.out q hq)).setCell (p := ⟨wo.heap.size, 1, none⟩) (Nat.le_refl _) (.slice A6 z9.length d6))
                      have ho7 := Lib.hid (own32_apart HO6.out (grown_setCell (grown_refl w6 (some wo.heap.size)) 1 (.slice A6 z9.length d6)) (Nat.lt_succ_self _))
                      clear c0 c1 c1a c6 f6 k3 k4 k5 q1
                      go_wp2_with fail
                      go_roundw
                      case rel => exact ⟨hb7.out, _, k + 1, HKL.out, by go_num, hk7.out, by rw [← HZ9.out]; exact ho7.out⟩
                      case measure => have := HKL.out; simp [intOf]; omega
                  · obtain rfl : k = lim := by omega
                    obtain ⟨A5, d5, rfl, e1, e2⟩ := hown.form
                    obtain ⟨z, hz⟩ : ∃ z, z = s.nums.take k := ⟨_, rfl⟩
                    have hzl : z.length = k := by rw [hz, List.length_take]; have := HLE.out.1; omega
                    rw [← hz] at hown HN hblk e1
                    have HZK := Lib.hid hzl
                    have HZF := Lib.hid (show ∀ x ∈ z, x < 4294967296 from fun x hx => HFIT.out.1 x (by rw [hz] at hx; exact List.mem_of_mem_take hx))
                    have HS7 := Lib.hid (HOW.out.below hbi)
                    have HB7 := Lib.hid HOW.out.blocks
                    have HO7 := Lib.hid (show Own32 wr (wo.heap.size + 1) (Sg.sl ⟨s.kind, A5, d5, z⟩) z from hown)
                    have c7 := cells2 hblk
                    have HBW := Lib.hid (HBR.out.trans (hbi.mono HBR.out.size))
                    have HZ7 := Lib.hid hblk.lt
                    clear hblk hown hbi hz hzl c0 hok
                    rcases (show ¬ k < s.nums.length ∨ (k < s.nums.length ∧ k = n) by have := HLE.out; omega) with he | ⟨he, he2⟩
                    · have heI : ¬ (k : Int) < (s.nums.length : Int) := by omega
                      clear he
                      go_wp2_with (at_builtin; refine wpList_app_one' isSeg rfl (.tmp 95) (.tmp 97) rfl w.heap.size _ _ _ rfl wr (Sg.two ⟨s.kind, A5, d5, z⟩) rfl HS7.out.row rfl rfl (two_one _) (by have h1 := HML.out; have h2 := HLT.out; omega) HBW.out.size ?_)
                      intro v8 w8 hown8 hg8
                      have HP := Lib.hid (OwnSegs.push (s := ⟨s.kind, A5, d5, z⟩) HS7.out HO7.out (by have := HBR.out.size; omega) (fun x hx j hj => Nat.lt_succ_of_lt (HB7.out x hx j hj)) ⟨HZF.out, HFIT.out.2⟩ hown8 hg8)
                      have HB9 := Lib.hid (HBW.out.grown hg8 HBW.out.size (fun j hj => (World.ownsRow.lt HS7.out.row j hj).1))
                      have HZ8 := Lib.hid (show wo.heap.size + 1 ≤ w8.heap.size from Nat.le_trans HZ7.out hg8.size)
                      clear c7 hown8 hg8
                      go_wp2_with fail
                      go_roundw
                      case rel =>
                        refine ⟨HB9.out, _, wo.heap.size + 1, j + 1, n - s.nums.length, HLT.out, by go_num, ?_, by have := HNN.out; omega, HP.out, (by have := HBR.out.size; omega), HZ8.out, ?_, Lib.hid ?_⟩
                        · have h9 := HZK.out
                          have h8 := HLE.out
                          have e9 : wrap64 ((n : Int) - (z.length : Int)) = ((n - s.nums.length : Nat) : Int) := by
                            rw [IntWalk.wrap64_in _ ⟨by omega, by omega⟩]
                            omega
                          first | exact congrArg (Value.int .i64) e9 | (congr 1; omega) | go_num
                        · rw [List.length_append]
                          have := HML.out
                          simp only [List.length_cons, List.length_nil]
                          omega
                        · rw [List.map_append, List.append_assoc]
                          exact HN.out
                      case measure =>
                        have := HLT.out
                        simp [intOf]
                        omega
                    · have heI : (k : Int) < (s.nums.length : Int) := by omega
                      have hen : ¬ (k : Int) < (n : Int) := by omega
                      clear he he2
                      go_wp2_with (at_builtin; refine wpList_app_one' isSeg rfl (.tmp 95) (.tmp 97) rfl w.heap.size _ _ _ rfl wr (Sg.two ⟨s.kind, A5, d5, z⟩) rfl HS7.out.row rfl rfl (two_one _) (by have h1 := HML.out; have h2 := HLT.out; omega) HBW.out.size ?_)
                      intro v8 w8 hown8 hg8
                      have HP := Lib.hid (OwnSegs.push (s := ⟨s.kind, A5, d5, z⟩) HS7.out HO7.out (by have := HBR.out.size; omega) (fun x hx j hj => Nat.lt_succ_of_lt (HB7.out x hx j hj)) ⟨HZF.out, HFIT.out.2⟩ hown8 hg8)
                      have HB9 := Lib.hid (HBW.out.grown hg8 HBW.out.size (fun j hj => (World.ownsRow.lt HS7.out.row j hj).1))
                      have HZ8 := Lib.hid (show wo.heap.size + 1 ≤ w8.heap.size from Nat.le_trans HZ7.out hg8.size)
                      clear c7 hown8 hg8
                      go_wp2_with fail
                      go_roundw
                      case rel =>
                        refine ⟨HB9.out, _, wo.heap.size + 1, j + 1, n - s.nums.length, HLT.out, by go_num, ?_, by have := HNN.out; omega, HP.out, (by have := HBR.out.size; omega), HZ8.out, ?_, Lib.hid ?_⟩
                        · have h9 := HZK.out
                          have h8 := HLE.out
                          have e9 : wrap64 ((n : Int) - (z.length : Int)) = ((n - s.nums.length : Nat) : Int) := by
                            rw [IntWalk.wrap64_in _ ⟨by omega, by omega⟩]
                            omega
                          first | exact congrArg (Value.int .i64) e9 | (congr 1; omega) | go_num
                        · rw [List.length_append]
                          have := HML.out
                          simp only [List.length_cons, List.length_nil]
                          omega
                        · rw [List.map_append, List.append_assoc]
                          exact HN.out
                      case measure =>
                        have := HLT.out
                        simp [intOf]
                        omega
              · have hs1 : s.kind = 1 := by rcases hkd.1 with h | h; exact h; exact absurd h hs2
                have es : (s.kind == 1) = true := by rw [hs1]; rfl
                have HN := Lib.hid (show M.map Sg.abs ++ ((s.kind, s.nums.take s.nums.length) :: begL ((L.drop (j + 1)).map Sg.abs) (n - 1)) = begL (L.map Sg.abs) d by
                  rw [if_neg (show ¬ s.abs.1 = 2 from hs2)] at hab2
                  rw [List.take_length]
                  exact hab2)
                obtain ⟨lim, hlim⟩ : ∃ lim, lim = s.nums.length := ⟨_, rfl⟩
                rw [show s.nums.take s.nums.length = s.nums.take lim by rw [hlim]] at HN
                have HLE := Lib.hid (show lim ≤ s.nums.length ∧ lim = s.nums.length by omega)
                clear hs2 hs1 hab2 hkd hs hlim
                go_wp2_with fail
                go_loopw [9] (fun i wr' => RMergeIn wo wo.heap.size s.kind s.nums lim i wr') (fun i _ => lim - (intOf i).toNat)
                case atStart => exact ⟨HBA.out, _, 0, Nat.zero_le _, rfl, HBK.out, by simpa using Own32.nil _ _⟩
                case round =>
                  obtain ⟨hbi, v, k, hk9, rfl, hblk, hown⟩ := hrel
                  obtain ⟨b3, off3, hAe, hb3, k3, k4, hok⟩ := (HS.out.below (HBR.out.trans (hbi.mono HBR.out.size)) (Nat.le_refl _)).at HSS.out
                  cases hAe
                  have c0 : wr.cell? ⟨wo.heap.size, 0, none⟩ = some (.int .i64 s.kind) := hblk.cell 0
                  have hkb : (k : Int) ≤ 64 := by have := HLE.out.1; have := HJ64.out; omega
                  by_cases hlt2 : k < lim
                  · obtain ⟨b4, off4, hA4, hb4, k5⟩ := hok.2.2.1.cell (k := k) (by have := HLE.out.1; omega)
                    have HTK := Lib.hid (take_num32 (z := s.nums) (k := k) (by have := HLE.out.1; omega))
                    obtain ⟨x9, hx9⟩ : ∃ x, x = s.nums.getD k 0 := ⟨_, rfl⟩
                    rw [← hx9] at k5 HTK
                    rw [hA4] at k4
                    have c1 : wr.cell? ⟨wo.heap.size, 1, none⟩ = some v := hblk.cell 1
                    have c1a : (wr.alloc (.cells #[.int .u32 (x9 : Int)] 23)).cell? ⟨wo.heap.size, 1, none⟩ = some v := (((Below.refl wr.heap.size wr).alloc (Nat.le_refl _) _).cell (p := ⟨wo.heap.size, 1, none⟩) hblk.lt).trans c1
                    have hy0 : (0 : Int) ≤ (k : Int) := by omega
                    have hy1 : (k : Int) < (s.nums.length : Int) := by have := HLE.out.1; omega
                    have HKL := Lib.hid hlt2
                    have HO := Lib.hid (show Own32 wr.drew (wo.heap.size + 1) v (s.nums.take k) from World.ownsRow.drew hown)
                    have HZ5 := Lib.hid (show wo.heap.size + 1 ≤ wr.drew.heap.size from hblk.lt)
                    have HSZ := Lib.hid (show (s.nums.take k).length + 1 ≤ 100000000000 by rw [List.length_take]; have := HJ64.out; omega)
                    have HVB := Lib.hid (show some wo.heap.size ≠ v.ownBlock from fun e => by
                      have := (World.ownsRow.lt hown _ e.symm).1
                      omega)
                    have HOL := Lib.hid (fun (q : Nat) (hq : v.ownBlock = some q) => (show wo.heap.size ≤ q from by
                      have := (World.ownsRow.lt hown q hq).1
                      omega))
                    have HBL := Lib.hid hblk; have HBD := Lib.hid hbi.drew
                    clear hok hblk hown hbi hlt2 hx9 hA4
                    go_wp2_with fail
                    go_region_law ((refine step_num32 (by rfl) (.tmp 73) (.tmp 82) (by rfl) (wo.heap.size + 1) v (s.nums.take k) (by rfl) wr.drew x9 rfl HO.out (by rfl) HSZ.out HZ5.out ?_; intro v6 w6 ho6 hg6; have hk6 := (hg6.block _ HZ5.out HVB.out).trans HBL.out; have c6 : w6.cell? ⟨wo.heap.size, 1, none⟩ = some v := Blk.cell hk6 1; have f6 : w6.frozen? ⟨wo.heap.size, 1, none⟩ = false := Blk.free hk6 1; have HK6 := Lib.hid hk6; rw [← HTK.out] at ho6; obtain ⟨z9, hz9⟩ : ∃ z9, z9 = s.nums.take (k + 1) := ⟨_, rfl⟩; rw [← hz9] at ho6; have HZ9 := Lib.hid hz9; clear hz9; obtain ⟨A6, d6, rfl, q1, q2⟩ := ho6.form; have HO6 := Lib.hid ho6; have HG6 := Lib.hid hg6; clear hk6 ho6 hg6))
                    all_goals
                      have hk7 := Lib.hid (Blk.set (show Blk w6 wo.heap.size 53 [.int .i64 s.kind, v] from HK6.out) 1 (.slice A6 z9.length d6))
                      have hb7 := Lib.hid ((HBD.out.grown HG6.out (Nat.le_of_succ_le HZ5.out) (fun q hq => HOL.out q hq)).setCell (p := ⟨wo.heap.size, 1, none⟩) (Nat.le_refl _) (.slice A6 z9.length d6))
                      have ho7 := Lib.hid (own32_apart HO6.out (grown_setCell (grown_refl w6 (some wo.heap.size)) 1 (.slice A6 z9.length d6)) (Nat.lt_succ_self _))
                      clear c0 c1 c1a c6 f6 k3 k4 k5 q1
                      go_wp2_with fail
                      go_roundw
                      case rel => exact ⟨hb7.out, _, k + 1, HKL.out, by go_num, hk7.out, by rw [← HZ9.out]; exact ho7.out⟩
                      case measure => have := HKL.out; simp [intOf]; omega
                  · obtain rfl : k = lim := by omega
                    obtain ⟨A5, d5, rfl, e1, e2⟩ := hown.form
                    obtain ⟨z, hz⟩ : ∃ z, z = s.nums.take k := ⟨_, rfl⟩
                    have hzl : z.length = k := by rw [hz, List.length_take]; have := HLE.out.1; omega
                    rw [← hz] at hown HN hblk e1
                    have HZK := Lib.hid hzl
                    have HZF := Lib.hid (show ∀ x ∈ z, x < 4294967296 from fun x hx => HFIT.out.1 x (by rw [hz] at hx; exact List.mem_of_mem_take hx))
                    have HS7 := Lib.hid (HOW.out.below hbi)
                    have HB7 := Lib.hid HOW.out.blocks
                    have HO7 := Lib.hid (show Own32 wr (wo.heap.size + 1) (Sg.sl ⟨s.kind, A5, d5, z⟩) z from hown)
                    have c7 := cells2 hblk
                    have HBW := Lib.hid (HBR.out.trans (hbi.mono HBR.out.size))
                    have HZ7 := Lib.hid hblk.lt
                    clear hblk hown hbi hz hzl c0 hok
                    have heI : ¬ (k : Int) < (s.nums.length : Int) := by have := HLE.out.2; omega
                    go_wp2_with (at_builtin; refine wpList_app_one' isSeg rfl (.tmp 95) (.tmp 97) rfl w.heap.size _ _ _ rfl wr (Sg.two ⟨s.kind, A5, d5, z⟩) rfl HS7.out.row rfl rfl (two_one _) (by have h1 := HML.out; have h2 := HLT.out; omega) HBW.out.size ?_)
                    intro v8 w8 hown8 hg8
                    have HP := Lib.hid (OwnSegs.push (s := ⟨s.kind, A5, d5, z⟩) HS7.out HO7.out (by have := HBR.out.size; omega) (fun x hx j hj => Nat.lt_succ_of_lt (HB7.out x hx j hj)) ⟨HZF.out, HFIT.out.2⟩ hown8 hg8)
                    have HB9 := Lib.hid (HBW.out.grown hg8 HBW.out.size (fun j hj => (World.ownsRow.lt HS7.out.row j hj).1))
                    have HZ8 := Lib.hid (show wo.heap.size + 1 ≤ w8.heap.size from Nat.le_trans HZ7.out hg8.size)
                    clear c7 hown8 hg8
                    go_wp2_with fail
                    go_roundw
                    case rel =>
                      refine ⟨HB9.out, _, wo.heap.size + 1, j + 1, n - 1, HLT.out, by go_num, ?_, by have := HNN.out; omega, HP.out, (by have := HBR.out.size; omega), HZ8.out, ?_, Lib.hid ?_⟩
                      · have h9 := HN1.out
                        have e9 : wrap64 ((n : Int) - 1) = ((n - 1 : Nat) : Int) := by
                          rw [IntWalk.wrap64_in _ ⟨by omega, by omega⟩]
                          omega
                        first | exact congrArg (Value.int .i64) e9 | (congr 1; omega) | go_num
                      · rw [List.length_append]
                        have := HML.out
                        simp only [List.length_cons, List.length_nil]
                        omega
                      · rw [List.map_append, List.append_assoc]
                        exact HN.out
                    case measure =>
                      have := HLT.out
                      simp [intOf]
                      omega
            · have hfin : M.map Sg.abs = begL (L.map Sg.abs) d := by
                rw [← hab.out]
                by_cases hjl : j < L.length
                · rw [show n = 0 by omega, begL_zero, List.append_nil]
                · rw [List.drop_eq_nil_of_le (by omega)]
                  simp [begL]
              obtain ⟨A1, d1, rfl, g1, g2⟩ := hown.form
              have HO1 := Lib.hid hown; have HM1 := Lib.hid hfin; have HBR := Lib.hid hbr
              have HMl := Lib.hid (show M.length ≤ 12 by omega)
              clear hown hfin hab g1 g2 hMl
              have hexit : (¬ j < L.length) ∨ (j < L.length ∧ n = 0) := by omega
              rcases hexit with hx1 | ⟨hx1, hx2⟩
              · have hxI : ¬ (j : Int) < (L.length : Int) := by omega
                clear hx1 hgo hbr
                have HN12 := Lib.hid (segs_news (HS'.out.below HBR.out (Nat.le_refl _)))
                have hl1 : M.length ≤ 12 := HMl.out
                go_wp2_with (at_builtin; refine wpList_app isSeg rfl (.tmp 99) (.tmp 100) rfl w _ M.length (flatS M) rfl HO1.out.row A' N.length c' (flatS N) rfl (flat_len N) HN12.out (flat_one N) (by omega) HBR.out ?_)
                intro v7 w7 hrow7 hg7 hb7
                have hrow : w7.ownsRow w.heap.size 53 2 v7 (M ++ N).length (flatS (M ++ N)) := by rw [List.length_append, flat_app]; exact hrow7
                have hok7 : ∀ s ∈ M ++ N, Sg.Ok w7 w7.heap.size s := fun s hs => by
                  rcases List.mem_append.1 hs with e | e
                  · exact own_ok (World.ownsRow.kept (HO1.out.own s e) hg7 (own_types (HO1.out.own s e) HO1.out.row segNe)) (HO1.out.fit s e)
                  · obtain ⟨q, hq, e3⟩ := List.mem_iff_getElem.1 e
                    obtain ⟨_, _, _, _, _, _, hok8⟩ := (HS'.out.below hb7 (Nat.le_refl _)).at (j := q) (s := s) (by rw [List.getElem?_eq_getElem hq, e3])
                    exact hok8.lift hb7.size
                obtain ⟨A7, d7, rfl, g1, g2⟩ : ∃ A7 d7, v7 = .slice A7 (M ++ N).length d7 ∧ (M ++ N).length ≤ d7 ∧ d7 ≤ maxLen := by
                  rcases hrow.2 with ⟨rfl, hn⟩ | ⟨g, cap, cur, rfl, hbg, hg, hnc, hcm, hcs, htake⟩
                  · exact ⟨none, 0, by rw [hn], by omega, Nat.zero_le _⟩
                  · exact ⟨_, cap, rfl, hnc, hcm⟩
                have hsg := segs_row2 hrow hok7
                have hab7 : (M ++ N).map Sg.abs = begL (L.map Sg.abs) d ++ N.map Sg.abs := by rw [List.map_append, HM1.out]
                have HB7 := Lib.hid hb7
                have htM : totN (M ++ N) ≤ 200 := by
                  have h1 : totN M ≤ 64 := by
                    rw [tot_abs, HM1.out]
                    have e4 := begL_tot (L.map Sg.abs) d
                    rw [← tot_abs] at e4
                    have := HR2.out.1.2
                    omega
                  have h2 := HR2.out.2.2
                  unfold totN at h1 h2 ⊢
                  rw [List.map_append, List.sum_append]
                  omega
                obtain ⟨R, hR⟩ : ∃ R, R = M ++ N := ⟨_, rfl⟩
                rw [← hR] at hsg hab7 g1 htM ⊢
                have Q5 := RefRight_any A7 d7 R w7 hsg g1 g2 (by omega)
                rw [right_abs, hab7] at Q5
                have Q5 := Lib.hid Q5
                have HSG := Lib.hid hsg; have HAB := Lib.hid hab7
                clear hrow hrow7 hg7 hb7 hok7 hsg hab7 htM hR hl1
                cases hra : rightA (begL (L.map Sg.abs) d ++ N.map Sg.abs) with
                | true =>
                  rw [hra] at Q5
                  have HE := Lib.hid (show mergeL (L.map Sg.abs) (N.map Sg.abs) = begL (L.map Sg.abs) d ++ N.map Sg.abs by rw [HMG.out, hra, if_pos rfl])
                  clear hra
                  go_wp2_with fail
                  refine Q5.out.mono ?_
                  rintro e w8 ⟨rfl, rfl⟩
                  go_wp2_with fail
                  go_ret
                  rw [HE.out]
                  exact ⟨R, A7, d7, rfl, HAB.out, g1, g2, HSG.out, HB7.out⟩
                | false =>
                  rw [hra] at Q5
                  have HE := Lib.hid (show mergeL (L.map Sg.abs) (N.map Sg.abs) = L.map Sg.abs by rw [HMG.out, hra, if_neg (by decide)])
                  clear hra
                  go_wp2_with fail
                  refine Q5.out.mono ?_
                  rintro e w8 ⟨rfl, rfl⟩
                  go_wp2_with fail
                  go_ret
                  rw [HE.out]
                  exact HSELF.out _ HB7.out
              · have hxI : (j : Int) < (L.length : Int) := by omega
                have hx3 : ¬ 0 < n := by omega
                have hx4 : decide (0 < n) = false := decide_eq_false hx3
                clear hx1 hx2 hgo hbr
                have HN12 := Lib.hid (segs_news (HS'.out.below HBR.out (Nat.le_refl _)))
                have hl1 : M.length ≤ 12 := HMl.out
                go_wp2_with (at_builtin; refine wpList_app isSeg rfl (.tmp 99) (.tmp 100) rfl w _ M.length (flatS M) rfl HO1.out.row A' N.length c' (flatS N) rfl (flat_len N) HN12.out (flat_one N) (by omega) HBR.out ?_)
                intro v7 w7 hrow7 hg7 hb7
                have hrow : w7.ownsRow w.heap.size 53 2 v7 (M ++ N).length (flatS (M ++ N)) := by rw [List.length_append, flat_app]; exact hrow7
                have hok7 : ∀ s ∈ M ++ N, Sg.Ok w7 w7.heap.size s := fun s hs => by
                  rcases List.mem_append.1 hs with e | e
                  · exact own_ok (World.ownsRow.kept (HO1.out.own s e) hg7 (own_types (HO1.out.own s e) HO1.out.row segNe)) (HO1.out.fit s e)
                  · obtain ⟨q, hq, e3⟩ := List.mem_iff_getElem.1 e
                    obtain ⟨_, _, _, _, _, _, hok8⟩ := (HS'.out.below hb7 (Nat.le_refl _)).at (j := q) (s := s) (by rw [List.getElem?_eq_getElem hq, e3])
                    exact hok8.lift hb7.size
                obtain ⟨A7, d7, rfl, g1, g2⟩ : ∃ A7 d7, v7 = .slice A7 (M ++ N).length d7 ∧ (M ++ N).length ≤ d7 ∧ d7 ≤ maxLen := by
                  rcases hrow.2 with ⟨rfl, hn⟩ | ⟨g, cap, cur, rfl, hbg, hg, hnc, hcm, hcs, htake⟩
                  · exact ⟨none, 0, by rw [hn], by omega, Nat.zero_le _⟩
                  · exact ⟨_, cap, rfl, hnc, hcm⟩
                have hsg := segs_row2 hrow hok7
                have hab7 : (M ++ N).map Sg.abs = begL (L.map Sg.abs) d ++ N.map Sg.abs := by rw [List.map_append, HM1.out]
                have HB7 := Lib.hid hb7
                have htM : totN (M ++ N) ≤ 200 := by
                  have h1 : totN M ≤ 64 := by
                    rw [tot_abs, HM1.out]
                    have e4 := begL_tot (L.map Sg.abs) d
                    rw [← tot_abs] at e4
                    have := HR2.out.1.2
                    omega
                  have h2 := HR2.out.2.2
                  unfold totN at h1 h2 ⊢
                  rw [List.map_append, List.sum_append]
                  omega
                obtain ⟨R, hR⟩ : ∃ R, R = M ++ N := ⟨_, rfl⟩
                rw [← hR] at hsg hab7 g1 htM ⊢
                have Q5 := RefRight_any A7 d7 R w7 hsg g1 g2 (by omega)
                rw [right_abs, hab7] at Q5
                have Q5 := Lib.hid Q5
                have HSG := Lib.hid hsg; have HAB := Lib.hid hab7
                clear hrow hrow7 hg7 hb7 hok7 hsg hab7 htM hR hl1
                cases hra : rightA (begL (L.map Sg.abs) d ++ N.map Sg.abs) with
                | true =>
                  rw [hra] at Q5
                  have HE := Lib.hid (show mergeL (L.map Sg.abs) (N.map Sg.abs) = begL (L.map Sg.abs) d ++ N.map Sg.abs by rw [HMG.out, hra, if_pos rfl])
                  clear hra
                  go_wp2_with fail
                  refine Q5.out.mono ?_
                  rintro e w8 ⟨rfl, rfl⟩
                  go_wp2_with fail
                  go_ret
                  rw [HE.out]
                  exact ⟨R, A7, d7, rfl, HAB.out, g1, g2, HSG.out, HB7.out⟩
                | false =>
                  rw [hra] at Q5
                  have HE := Lib.hid (show mergeL (L.map Sg.abs) (N.map Sg.abs) = L.map Sg.abs by rw [HMG.out, hra, if_neg (by decide)])
                  clear hra
                  go_wp2_with fail
                  refine Q5.out.mono ?_
                  rintro e w8 ⟨rfl, rfl⟩
                  go_wp2_with fail
                  go_ret
                  rw [HE.out]
                  exact HSELF.out _ HB7.out
end Go.Proofs.YtiegfellgnfiiaaDoor
