/-
  P10.3: no more versions are live than are pinned, and one; each version that is pinned is what it was when it was committed: the walk.
-/
import Derived.Test.YtagfehfggkehmaaMoreI
import Derived.Test.YtagfehfggkehmaaAwake10
import Derived.Test.YtagfehfggkehmaaTailG
import Derived.Test.YtagfehfggkehmaaBnd10
import Derived.Test.YtagfehfggkehmaaActs10
namespace Go.Proofs.Ytagfehfggkehmaa.VersionBounds
set_option linter.unusedVariables false
open Go.RowKit

theorem ones : IsOnes Try.prog 36 3 (.int .i64 0) 8 := ⟨Try.underlying36, by kernel_rfl, rfl, by decide⟩

/-- Where the loop stands: i deeds are done; h is the head; L is held, in the slice v; the store lies in g and b. -/
def Rel (A : Option Addr) (l : List (Nat × Int)) (w1 : World) (g b : Nat) (v n i : Value) (wr : World) : Prop :=
  ∃ (k h : Nat) (L : List Int) (N : Nat), k ≤ l.length ∧ k ≤ 100 ∧ i = .int .i64 (k : Int) ∧ n = .int .i64 (h : Int) ∧ h ≤ k ∧ L.length ≤ k ∧ N ≤ 2 * k + 1 ∧ (∀ x ∈ L, 0 ≤ x ∧ x ≤ (h : Int)) ∧
    StI wr g b N (h : Int) (BF (h : Int) L) (BC (h : Int) L) ∧ TlG wr w1.heap.size 3 v (L.map (Value.int .i64)) ∧ Keep2 w1 wr g b

theorem form_of {w : World} {B e n c : Nat} {A : Option Addr} {l : List Value} (h : TlG w B e (.slice A n c) l) : ∀ g off, A = some ⟨g, off, none⟩ → B ≤ g ∧ (∀ j u, l[j]? = some u → w.cell? ⟨g, off + j, none⟩ = some u) ∧ ∀ j, j < l.length → w.frozen? ⟨g, off + j, none⟩ = false := by
  obtain ⟨A', c', hv, _, _, _, hf⟩ := h.form
  cases hv
  exact hf
theorem tl_keep {w w' : World} {B e g b : Nat} {v : Value} {l : List Value} (h : TlG w B e v l) (k : Keep2 w w' g b) (hg : g < B) (hb : b < B) : TlG w' B e v l :=
  h.same k.size fun q hq => k.block q (h.lt hq).2 (fun e => by have := (h.lt hq).1; omega) (fun e => by have := (h.lt hq).1; omega)
theorem keep_app {w1 w w' : World} {g b : Nat} {row : Option Nat} (h : Keep2 w1 w g b) (hg : w.grownBy w' row) (hr : ∀ k, row = some k → w1.heap.size ≤ k) : Keep2 w1 w' g b :=
  ⟨hg.os.trans h.os, hg.tape.trans h.tape, hg.output.trans h.output, Nat.le_trans h.size hg.size, fun k hk h1 h2 => (hg.block k (Nat.lt_of_lt_of_le hk h.size) (fun e => by have := hr k e.symm; omega)).trans (h.block k hk h1 h2)⟩
theorem st_app {w w' : World} {g b n c B : Nat} {h : Int} {F : Int → Option (Int × Int)} {row : Option Nat} (s : StI w g b n h F c) (hg : w.grownBy w' row) (hr : ∀ k, row = some k → B ≤ k) (h1 : g < B) (h2 : b < B) : StI w' g b n h F c :=
  s.keep (hg.block g s.lt.1 (fun e => by have := hr g e.symm; omega)) (hg.block b s.lt.2 (fun e => by have := hr b e.symm; omega))

set_option maxRecDepth 100000 in
set_option maxHeartbeats 12800000 in
theorem walk (A : Option Addr) (cap : Nat) (l : List (Nat × Int)) (w : World) (hc : l.length ≤ cap) (hm : cap ≤ maxLen) (hin : ActsIn w A l) (hok : ∀ s ∈ l, ActOk s) :
    Calls Try.prog 4 #[.slice A l.length cap] w fun e w' => e = .returned (.bool true) ∧ Below w.heap.size w w' := by
  have HC := Lib.hid hc; have HM := Lib.hid hm; have HIN := Lib.hid hin; have HOK := Lib.hid hok
  clear hc hm hin hok
  go_enter Try.func4, Try.ntmps4
  go_wp2_with fail
  refine (NewI 0 w).mono ?_
  rintro e w1 ⟨g, b, rfl, hg, hb, s1, bel1⟩
  rw [bf_new] at s1
  have HS1 := Lib.hid s1
  have HL := Lib.hid (And.intro hg (And.intro hb bel1))
  clear s1 hg hb bel1
  go_wp2_with fail
  go_loopw [4, 5, 6] (fun v n i wr => Rel A l w1 g b v n i wr) (fun _ _ i _ => l.length - (intOf i).toNat)
  case atStart => exact ⟨0, 0, [], 1, by omega, by omega, rfl, rfl, by omega, by simp, by omega, by simp, HS1.out, TlG.nil _ _ _, Keep2.refl _ _ _⟩
  case round =>
    obtain ⟨k, h, L, N, hk1, hk2, rfl, rfl, hh, hL, hN, hM, hs, ht, hkp⟩ := hrel
    obtain ⟨A1, c1, rfl, hf1, hf2, hf3, hf4⟩ := ht.form
    have el : (List.map (Value.int .i64) L).length = L.length := List.length_map _
    rw [el] at ht hf1 ⊢
    have HF := Lib.hid (And.intro hf1 (And.intro hf2 (And.intro (el ▸ hf3) hf4)))
    have HS := Lib.hid hs; have HT := Lib.hid ht; have HK := Lib.hid hkp; have HMM := Lib.hid hM
    have HGB := Lib.hid (show g < w1.heap.size ∧ b < w1.heap.size from HS1.out.lt)
    clear hs ht hkp hM hf1 hf2 hf3 hf4 el
    by_cases hlt : k < l.length ∧ k < 100
    · obtain ⟨hlt1, hlt2⟩ := hlt
      have h1 : (k : Int) < (l.length : Int) := by omega
      have h2 : (k : Int) < 100 := by omega
      obtain ⟨y, hy⟩ : ∃ y, l[k]? = some y := ⟨_, List.getElem?_eq_getElem hlt1⟩
      have hoky := HOK.out y (List.mem_of_getElem? hy)
      obtain ⟨kd, nm⟩ := y
      have hkd : kd < 256 := hoky.1
      have hbw : Below w.heap.size w wr := HL.out.2.2.trans (HK.out.below HL.out.1 HL.out.2.1 HL.out.2.2.size)
      obtain ⟨ba, oa, rfl, hlt3, hca, hcb⟩ := (HIN.out.below hbw).cell hy
      dsimp only at hca hcb
      clear hoky hbw hy
      by_cases hk0 : (kd : Int) % 3 = 0
      · have h3 : ((kd : Int) % 3 == 0) = true := by simpa using hk0
        go_wp2_with fail
        refine (CommitI HS.out (7 * ((h : Int) + 1)) (by omega) (by omega)).mono ?_
        rintro e w2 ⟨rfl, s2, k2⟩
        rw [(bf_commit (fun x hx => (HMM.out x hx).2)).1, (bf_commit (fun x hx => (HMM.out x hx).2)).2] at s2
        have HS2 := Lib.hid s2
        have HT2 := Lib.hid (tl_keep HT.out k2 HGB.out.1 HGB.out.2)
        have HK2 := Lib.hid (HK.out.trans k2)
        have HL2 := Lib.hid (show L.length ≤ k + 1 by omega)
        have HH2 := Lib.hid (show (h : Int) + 1 ≤ 101 by omega)
        have HM2 := Lib.hid (fun x (hx : x ∈ L) => (⟨(HMM.out x hx).1, by have := (HMM.out x hx).2; omega⟩ : 0 ≤ x ∧ x ≤ (h : Int) + 1))
        have HF2 := Lib.hid (And.intro HF.out.1 (And.intro HF.out.2.1 (And.intro HF.out.2.2.1 (form_of HT2.out))))
        clear s2 k2
        obtain ⟨C, hC⟩ : ∃ C, C = BC ((h : Int) + 1) L := ⟨_, rfl⟩
        have hC1 : ¬ ((L.length : Int) + 1 < (C : Int)) := by have := bc_le ((h : Int) + 1) L; omega
        have hC2 : ¬ ((C : Int) < 1) := by have := bc_pos ((h : Int) + 1) L; omega
        have hC3 : (C : Int) ≤ 1000 := by have := bc_le ((h : Int) + 1) L; have := HL2.out; omega
        have hll : (L.length : Int) ≤ 1000 := by have := HL2.out; omega
        rw [← hC] at HS2
        have HCC := Lib.hid hC
        clear hC
        go_wp2_with ((go_at_call 18; refine (LiveI HS2.out).mono ?_; rintro e wx ⟨rfl, rfl⟩))
        go_loopw [7] (fun i wr2 => ∃ q : Nat, q ≤ L.length ∧ i = .int .i64 (q : Int) ∧ Below w2.heap.size w2 wr2) (fun i _ => L.length - (intOf i).toNat)
        case atStart => exact ⟨0, by omega, rfl, Below.refl _ _⟩
        case round =>
          obtain ⟨q, hq, rfl, hbq⟩ := hrel
          have HBQ := Lib.hid hbq
          clear hbq
          by_cases hql : q < L.length
          · have hq1 : (q : Int) < (L.length : Int) := by omega
            obtain ⟨x, hx⟩ : ∃ x, L[q]? = some x := ⟨_, List.getElem?_eq_getElem hql⟩
            have hxm : x ∈ L := List.mem_of_getElem? hx
            obtain ⟨hx1, hx2⟩ := HM2.out x hxm
            have hxh : x ≤ 1000 := by have := HH2.out; omega
            obtain ⟨hF, hcnt⟩ := bf_held (h := ((h : Int) + 1)) hxm
            obtain ⟨gg, off, hA⟩ := HF2.out.2.2.1 q hql
            subst hA
            have hcells := (HF2.out.2.2.2 gg off rfl).2.1 q (.int .i64 x) (by rw [List.getElem?_map, hx]; rfl)
            have hcell2 : wr.cell? ⟨gg, off + q, none⟩ = some (.int .i64 x) := (HBQ.out.cell (p := ⟨gg, off + q, none⟩) (World.block_lt_of_cell? w2 _ hcells)).trans hcells
            have hwx : (Lit.int .i64 x).wf = true := WalkArith.wf_i64 (by omega)
            have HSQ := Lib.hid (HS2.out.below HBQ.out HS2.out.lt.1 HS2.out.lt.2)
            have hget := AtI_of (getI HSQ.out x hwx)
            rw [show atI (BF ((h : Int) + 1) L) x = (7 * x, (L.count x : Int)) by unfold atI; rw [hF]; rfl, hF] at hget
            have QA := Lib.hid hget
            have HW := Lib.hid (And.intro hF hwx)
            obtain ⟨ct, hct⟩ : ∃ ct, ct = L.count x := ⟨_, rfl⟩
            have hct1 : ¬ ((ct : Int) < 1) := by omega
            have HCT := Lib.hid hct
            have HC2 := Lib.hid hcells
            clear hget hF hwx hxm hx hcells hct hcnt
            go_wp2_with fail
            refine QA.out.mono ?_
            rintro e w3 ⟨rfl, b3⟩
            rw [show retAtI (7 * x, (L.count x : Int)) (some (7 * x, (L.count x : Int))).isSome = .tuple #[.int .i64 (7 * x), .bool true] from rfl]
            have HB3 := Lib.hid (HBQ.out.trans (b3.mono HBQ.out.size))
            have hcell3 : w3.cell? ⟨gg, off + q, none⟩ = some (.int .i64 x) := (HB3.out.cell (p := ⟨gg, off + q, none⟩) (World.block_lt_of_cell? w2 _ HC2.out)).trans HC2.out
            have HS3 := HS2.out.below HB3.out HS2.out.lt.1 HS2.out.lt.2
            have hpin := PinsI_of (getI HS3 x HW.out.2)
            rw [show (atI (BF ((h : Int) + 1) L) x).2 = (ct : Int) by unfold atI; rw [HW.out.1, HCT.out]; rfl] at hpin
            have QP := Lib.hid hpin
            clear b3 HS3 hpin hcell2
            go_wp2_with fail
            refine QP.out.mono ?_
            rintro e w4 ⟨rfl, b4⟩
            have HB4 := Lib.hid (HB3.out.trans (b4.mono HB3.out.size))
            clear b4 hcell3
            go_wp2_with fail
            go_roundw
            case rel => exact ⟨q + 1, by omega, by go_num, HB4.out⟩
            case measure => simp [intOf]; omega
          · go_wp2_with fail
            go_roundw
            case rel =>
              have hsq := HS2.out.below HBQ.out HS2.out.lt.1 HS2.out.lt.2
              have htq := HT2.out.below HBQ.out
              exact ⟨k + 1, (h + 1), L, (N + 1), by omega, by omega, by go_num, by go_num, by omega, HL2.out, by omega, (fun x hx => by have := HM2.out x hx; omega), by rw [HCC.out] at hsq; exact hsq, htq, HK2.out.trans (Keep2.of_below HBQ.out)⟩
            case measure => simp [intOf]; omega
      · by_cases hk3 : (kd : Int) % 3 = 1
        · have h3 : ((kd : Int) % 3 == 0) = false := by simpa using hk0
          have h4 : ((kd : Int) % 3 == 1) = true := by simpa using hk3
          have hct : (L.count (h : Int) : Int) ≤ 1000 := by have := List.count_le_length (a := (h : Int)) (l := L); omega
          obtain ⟨ct, hctE⟩ : ∃ ct, ct = L.count (h : Int) := ⟨_, rfl⟩
          have QP := Lib.hid (PinI HS.out (7 * (h : Int)) (ct : Int) (by rw [hctE]; exact bf_head _ _) (by omega) (by omega) (by omega))
          have HCT := Lib.hid hctE
          clear hct hctE
          go_wp2_with fail
          refine QP.out.mono ?_
          rintro e w2 ⟨rfl, s2, k2⟩
          rw [HCT.out, (bf_pin _ _).1, (bf_pin _ _).2] at s2
          have ht2 := tl_keep HT.out k2 HGB.out.1 HGB.out.2
          have HK3 := Lib.hid (HK.out.trans k2)
          have HS3 := Lib.hid (s2.below ((Below.refl _ _).alloc (Nat.le_refl _) (.cells #[.int .i64 (h : Int)] 3)) s2.lt.1 s2.lt.2)
          have HT3 := Lib.hid (ht2.below ((Below.refl _ _).alloc (Nat.le_refl _) (.cells #[.int .i64 (h : Int)] 3)))
          have HZ3 := Lib.hid (show w1.heap.size ≤ (w2.alloc (.cells #[.int .i64 (h : Int)] 3)).heap.size from Nat.le_trans HK3.out.size (by simp))
          have HL3 := Lib.hid (show (List.map (Value.int .i64) L).length ≤ 1000000000 by rw [List.length_map]; omega)
          have HC3 := Lib.hid (show (w2.alloc (.cells #[.int .i64 (h : Int)] 3)).cell? ⟨w2.heap.size, 0, none⟩ = some (.int .i64 (h : Int)) from (Blk.new w2 3 [.int .i64 (h : Int)]).cell 0)
          clear s2 k2 ht2 QP
          go_wp2_with ((at_builtin; refine wpList_append_tailG ones rfl (.tmp 49) (.tmp 52) rfl w1.heap.size _ (List.map (Value.int .i64) L) rfl HT3.out HZ3.out ⟨w2.heap.size, 0, none⟩ 1 (.int .i64 (h : Int)) rfl HC3.out rfl HL3.out ?_))
          intro v4 w4 ht4 hg4 hn4
          rw [show List.map (Value.int .i64) L ++ [.int .i64 (h : Int)] = List.map (Value.int .i64) (L ++ [(h : Int)]) by simp] at ht4
          obtain ⟨A4, c4, rfl, hf1, hf2, hf3, hf4⟩ := ht4.form
          have el4 : (List.map (Value.int .i64) (L ++ [(h : Int)])).length = (L ++ [(h : Int)]).length := List.length_map _
          rw [el4] at ht4 hf1 hf3
          rw [el4]
          obtain ⟨L4, hL4⟩ : ∃ L4, L4 = L ++ [(h : Int)] := ⟨_, rfl⟩
          have HLE := Lib.hid (show L4.length = L.length + 1 by rw [hL4]; simp)
          have HM2 := Lib.hid (show ∀ x ∈ L4, 0 ≤ x ∧ x ≤ (h : Int) from fun x hx => by
            rw [hL4] at hx
            rcases List.mem_append.1 hx with hx | hx
            · exact HMM.out x hx
            · have e : x = (h : Int) := by simpa using hx
              omega)
          have hrow : ∀ q, (Value.slice A1 L.length c1).ownBlock = some q → w1.heap.size ≤ q := fun q hq => (HT3.out.lt hq).1
          have HS2 := Lib.hid (st_app (B := w1.heap.size) HS3.out hg4 hrow HGB.out.1 HGB.out.2)
          have HK2 := Lib.hid (keep_app (HK3.out.alloc _) hg4 hrow)
          rw [← hL4] at ht4 hf1 hf3 HS2
          rw [← hL4]
          have HT2 := Lib.hid ht4
          have HF2 := Lib.hid (And.intro hf1 (And.intro hf2 (And.intro hf3 (form_of ht4))))
          have HL2 := Lib.hid (show L4.length ≤ k + 1 by have := HLE.out; omega)
          have HH2 := Lib.hid (show (h : Int) ≤ 101 by omega)
          clear ht4 hf1 hf2 hf3 hf4 hg4 hn4 hL4 el4 hrow
          obtain ⟨C, hC⟩ : ∃ C, C = BC (h : Int) L4 := ⟨_, rfl⟩
          have hC1 : ¬ ((L4.length : Int) + 1 < (C : Int)) := by have := bc_le (h : Int) L4; omega
          have hC2 : ¬ ((C : Int) < 1) := by have := bc_pos (h : Int) L4; omega
          have hC3 : (C : Int) ≤ 1000 := by have := bc_le (h : Int) L4; have := HL2.out; omega
          have hll : (L4.length : Int) ≤ 1000 := by have := HL2.out; omega
          rw [← hC] at HS2
          have HCC := Lib.hid hC
          clear hC
          go_wp2_with ((go_at_call 18; refine (LiveI HS2.out).mono ?_; rintro e wx ⟨rfl, rfl⟩))
          go_loopw [7] (fun i wr2 => ∃ q : Nat, q ≤ L4.length ∧ i = .int .i64 (q : Int) ∧ Below w4.heap.size w4 wr2) (fun i _ => L4.length - (intOf i).toNat)
          case atStart => exact ⟨0, by omega, rfl, Below.refl _ _⟩
          case round =>
            obtain ⟨q, hq, rfl, hbq⟩ := hrel
            have HBQ := Lib.hid hbq
            clear hbq
            by_cases hql : q < L4.length
            · have hq1 : (q : Int) < (L4.length : Int) := by omega
              obtain ⟨x, hx⟩ : ∃ x, L4[q]? = some x := ⟨_, List.getElem?_eq_getElem hql⟩
              have hxm : x ∈ L4 := List.mem_of_getElem? hx
              obtain ⟨hx1, hx2⟩ := HM2.out x hxm
              have hxh : x ≤ 1000 := by have := HH2.out; omega
              obtain ⟨hF, hcnt⟩ := bf_held (h := (h : Int)) hxm
              obtain ⟨gg, off, hA⟩ := HF2.out.2.2.1 q hql
              subst hA
              have hcells := (HF2.out.2.2.2 gg off rfl).2.1 q (.int .i64 x) (by rw [List.getElem?_map, hx]; rfl)
              have hcell2 : wr.cell? ⟨gg, off + q, none⟩ = some (.int .i64 x) := (HBQ.out.cell (p := ⟨gg, off + q, none⟩) (World.block_lt_of_cell? w4 _ hcells)).trans hcells
              have hwx : (Lit.int .i64 x).wf = true := WalkArith.wf_i64 (by omega)
              have HSQ := Lib.hid (HS2.out.below HBQ.out HS2.out.lt.1 HS2.out.lt.2)
              have hget := AtI_of (getI HSQ.out x hwx)
              rw [show atI (BF (h : Int) L4) x = (7 * x, (L4.count x : Int)) by unfold atI; rw [hF]; rfl, hF] at hget
              have QA := Lib.hid hget
              have HW := Lib.hid (And.intro hF hwx)
              obtain ⟨ct, hct⟩ : ∃ ct, ct = L4.count x := ⟨_, rfl⟩
              have hct1 : ¬ ((ct : Int) < 1) := by omega
              have HCT := Lib.hid hct
              have HC2 := Lib.hid hcells
              clear hget hF hwx hxm hx hcells hct hcnt
              go_wp2_with fail
              refine QA.out.mono ?_
              rintro e w3 ⟨rfl, b3⟩
              rw [show retAtI (7 * x, (L4.count x : Int)) (some (7 * x, (L4.count x : Int))).isSome = .tuple #[.int .i64 (7 * x), .bool true] from rfl]
              have HB3 := Lib.hid (HBQ.out.trans (b3.mono HBQ.out.size))
              have hcell3 : w3.cell? ⟨gg, off + q, none⟩ = some (.int .i64 x) := (HB3.out.cell (p := ⟨gg, off + q, none⟩) (World.block_lt_of_cell? w4 _ HC2.out)).trans HC2.out
              have HS3 := HS2.out.below HB3.out HS2.out.lt.1 HS2.out.lt.2
              have hpin := PinsI_of (getI HS3 x HW.out.2)
              rw [show (atI (BF (h : Int) L4) x).2 = (ct : Int) by unfold atI; rw [HW.out.1, HCT.out]; rfl] at hpin
              have QP := Lib.hid hpin
              clear b3 HS3 hpin hcell2
              go_wp2_with fail
              refine QP.out.mono ?_
              rintro e w4 ⟨rfl, b4⟩
              have HB4 := Lib.hid (HB3.out.trans (b4.mono HB3.out.size))
              clear b4 hcell3
              go_wp2_with fail
              go_roundw
              case rel => exact ⟨q + 1, by omega, by go_num, HB4.out⟩
              case measure => simp [intOf]; omega
            · go_wp2_with fail
              go_roundw
              case rel =>
                have hsq := HS2.out.below HBQ.out HS2.out.lt.1 HS2.out.lt.2
                have htq := HT2.out.below HBQ.out
                exact ⟨k + 1, h, L4, (N + 1), by omega, by omega, by go_num, by go_num, by omega, HL2.out, by omega, HM2.out, by rw [HCC.out] at hsq; exact hsq, htq, HK2.out.trans (Keep2.of_below HBQ.out)⟩
              case measure => simp [intOf]; omega
        · have h3 : ((kd : Int) % 3 == 0) = false := by simpa using hk0
          have h4 : ((kd : Int) % 3 == 1) = false := by simpa using hk3
          by_cases hLe : L = []
          · have h5 : decide ((0 : Int) < (L.length : Int)) = false := by rw [hLe]; simp
            have h6 : decide (0 < L.length) = false := by rw [hLe]; simp
            have HS2 := HS; have HT2 := HT; have HK2 := HK; have HM2 := HMM; have HF2 := HF
            have HL2 := Lib.hid (show L.length ≤ k + 1 by omega)
            have HH2 := Lib.hid (show (h : Int) ≤ 101 by omega)
            clear hLe
            obtain ⟨wr0, hwr0⟩ : ∃ x, x = wr := ⟨_, rfl⟩
            subst hwr0
            obtain ⟨C, hC⟩ : ∃ C, C = BC (h : Int) L := ⟨_, rfl⟩
            have hC1 : ¬ ((L.length : Int) + 1 < (C : Int)) := by have := bc_le (h : Int) L; omega
            have hC2 : ¬ ((C : Int) < 1) := by have := bc_pos (h : Int) L; omega
            have hC3 : (C : Int) ≤ 1000 := by have := bc_le (h : Int) L; have := HL2.out; omega
            have hll : (L.length : Int) ≤ 1000 := by have := HL2.out; omega
            rw [← hC] at HS2
            have HCC := Lib.hid hC
            clear hC
            go_wp2_with ((go_at_call 18; refine (LiveI HS2.out).mono ?_; rintro e wx ⟨rfl, rfl⟩))
            go_loopw [7] (fun i wr2 => ∃ q : Nat, q ≤ L.length ∧ i = .int .i64 (q : Int) ∧ Below wr0.heap.size wr0 wr2) (fun i _ => L.length - (intOf i).toNat)
            case atStart => exact ⟨0, by omega, rfl, Below.refl _ _⟩
            case round =>
              obtain ⟨q, hq, rfl, hbq⟩ := hrel
              have HBQ := Lib.hid hbq
              clear hbq
              by_cases hql : q < L.length
              · have hq1 : (q : Int) < (L.length : Int) := by omega
                obtain ⟨x, hx⟩ : ∃ x, L[q]? = some x := ⟨_, List.getElem?_eq_getElem hql⟩
                have hxm : x ∈ L := List.mem_of_getElem? hx
                obtain ⟨hx1, hx2⟩ := HM2.out x hxm
                have hxh : x ≤ 1000 := by have := HH2.out; omega
                obtain ⟨hF, hcnt⟩ := bf_held (h := (h : Int)) hxm
                obtain ⟨gg, off, hA⟩ := HF2.out.2.2.1 q hql
                subst hA
                have hcells := (HF2.out.2.2.2 gg off rfl).2.1 q (.int .i64 x) (by rw [List.getElem?_map, hx]; rfl)
                have hcell2 : wr.cell? ⟨gg, off + q, none⟩ = some (.int .i64 x) := (HBQ.out.cell (p := ⟨gg, off + q, none⟩) (World.block_lt_of_cell? wr0 _ hcells)).trans hcells
                have hwx : (Lit.int .i64 x).wf = true := WalkArith.wf_i64 (by omega)
                have HSQ := Lib.hid (HS2.out.below HBQ.out HS2.out.lt.1 HS2.out.lt.2)
                have hget := AtI_of (getI HSQ.out x hwx)
                rw [show atI (BF (h : Int) L) x = (7 * x, (L.count x : Int)) by unfold atI; rw [hF]; rfl, hF] at hget
                have QA := Lib.hid hget
                have HW := Lib.hid (And.intro hF hwx)
                obtain ⟨ct, hct⟩ : ∃ ct, ct = L.count x := ⟨_, rfl⟩
                have hct1 : ¬ ((ct : Int) < 1) := by omega
                have HCT := Lib.hid hct
                have HC2 := Lib.hid hcells
                clear hget hF hwx hxm hx hcells hct hcnt
                go_wp2_with fail
                refine QA.out.mono ?_
                rintro e w3 ⟨rfl, b3⟩
                rw [show retAtI (7 * x, (L.count x : Int)) (some (7 * x, (L.count x : Int))).isSome = .tuple #[.int .i64 (7 * x), .bool true] from rfl]
                have HB3 := Lib.hid (HBQ.out.trans (b3.mono HBQ.out.size))
                have hcell3 : w3.cell? ⟨gg, off + q, none⟩ = some (.int .i64 x) := (HB3.out.cell (p := ⟨gg, off + q, none⟩) (World.block_lt_of_cell? wr0 _ HC2.out)).trans HC2.out
                have HS3 := HS2.out.below HB3.out HS2.out.lt.1 HS2.out.lt.2
                have hpin := PinsI_of (getI HS3 x HW.out.2)
                rw [show (atI (BF (h : Int) L) x).2 = (ct : Int) by unfold atI; rw [HW.out.1, HCT.out]; rfl] at hpin
                have QP := Lib.hid hpin
                clear b3 HS3 hpin hcell2
                go_wp2_with fail
                refine QP.out.mono ?_
                rintro e w4 ⟨rfl, b4⟩
                have HB4 := Lib.hid (HB3.out.trans (b4.mono HB3.out.size))
                clear b4 hcell3
                go_wp2_with fail
                go_roundw
                case rel => exact ⟨q + 1, by omega, by go_num, HB4.out⟩
                case measure => simp [intOf]; omega
              · go_wp2_with fail
                go_roundw
                case rel =>
                  have hsq := HS2.out.below HBQ.out HS2.out.lt.1 HS2.out.lt.2
                  have htq := HT2.out.below HBQ.out
                  exact ⟨k + 1, h, L, N, by omega, by omega, by go_num, by go_num, by omega, HL2.out, by omega, HM2.out, by rw [HCC.out] at hsq; exact hsq, htq, HK2.out.trans (Keep2.of_below HBQ.out)⟩
                case measure => simp [intOf]; omega
          · obtain ⟨a, L', hLa⟩ := List.exists_cons_of_ne_nil hLe
            obtain ⟨n0, hn0⟩ : ∃ n0, n0 = L.length := ⟨_, rfl⟩
            have hn2 : n0 = L'.length + 1 := by rw [hn0, hLa]; simp
            obtain ⟨ha1, ha2⟩ := HMM.out a (by rw [hLa]; simp)
            have hwa : (Lit.int .i64 a).wf = true := WalkArith.wf_i64 (by omega)
            have hcn := (bf_held (h := (h : Int)) (show a ∈ a :: L' by simp)).2
            have hcl := List.count_le_length (a := a) (l := a :: L')
            rw [List.length_cons] at hcl
            have hs := HS.out
            rw [hLa] at hs
            have hreI := ReleaseI hs a (7 * a) ((a :: L').count a : Int) (bf_held (by simp)).1 (by omega) hwa (by omega)
            rw [(bf_release _ a L').1, (bf_release _ a L').2] at hreI
            obtain ⟨gg, off, hA⟩ := HF.out.2.2.1 0 (by omega)
            subst hA
            have hc0 := (HF.out.2.2.2 gg off rfl).2.1 0 (.int .i64 a) (by rw [hLa]; simp)
            rw [Nat.add_zero] at hc0
            have QR := Lib.hid hreI
            have hn1 : (0 : Int) < (n0 : Int) := by omega
            have hn3 : (1 : Int) ≤ (n0 : Int) := by omega
            have hcc : (n0 : Int) ≤ (c1 : Int) := by have := HF.out.1; omega
            have hcp : (1 : Int) ≤ (c1 : Int) := by omega
            have HTT := HT
            rw [← hn0] at HTT ⊢
            have HN0 := Lib.hid (And.intro hn2 hLa)
            clear hreI hcn hcl hwa hn0 hn2 hs hLa hLe
            by_cases hc9 : c1 = 1
            · subst hc9
              have HDR := Lib.hid (show TlG wr w1.heap.size 3 (.slice (some ⟨gg, off, none⟩) L'.length (0)) (L'.map (Value.int .i64)) by
                have h := HTT.out.drop (k := 1) (by rw [List.length_map, HN0.out.2]; simp)
                rw [if_pos rfl] at h
                have e : n0 - 1 = L'.length := by have := HN0.out.1; omega
                rw [e, HN0.out.2] at h
                exact h)
              go_wp2_with fail
              refine QR.out.mono ?_
              rintro e w2 ⟨rfl, s2, k2⟩
              have HS2 := Lib.hid s2
              have HT2 := Lib.hid (tl_keep HDR.out k2 HGB.out.1 HGB.out.2)
              have HK2 := Lib.hid (HK.out.trans k2)
              have HM2 := Lib.hid (fun x (hx : x ∈ L') => HMM.out x (by rw [HN0.out.2]; exact List.mem_cons_of_mem _ hx))
              have HL2 := Lib.hid (show L'.length ≤ k + 1 by have h := congrArg List.length HN0.out.2; rw [List.length_cons] at h; omega)
              have HH2 := Lib.hid (show (h : Int) ≤ 101 by omega)
              have HF2 := Lib.hid (show L'.length ≤ 0 ∧ 0 ≤ maxLen ∧ (∀ q, q < L'.length → ∃ g off', some (⟨gg, off, none⟩ : Addr) = some ⟨g, off', none⟩) ∧ ∀ g off', some (⟨gg, off, none⟩ : Addr) = some ⟨g, off', none⟩ → w1.heap.size ≤ g ∧ (∀ j u, (L'.map (Value.int .i64))[j]? = some u → w2.cell? ⟨g, off' + j, none⟩ = some u) ∧ ∀ j, j < (L'.map (Value.int .i64)).length → w2.frozen? ⟨g, off' + j, none⟩ = false from ⟨by have h := congrArg List.length HN0.out.2; rw [List.length_cons] at h; have := HF.out.1; omega, by exact Nat.zero_le _, fun _ _ => ⟨_, _, rfl⟩, form_of HT2.out⟩)
              clear s2 k2
              go_wp2_with fail
              have e9 : n0 - 1 = L'.length := by have := HN0.out.1; omega
              rw [e9]
              clear e9
              generalize hA5 : some (⟨gg, off, none⟩ : Addr) = A5 at HT2 HF2 ⊢
              clear hA5
              obtain ⟨C, hC⟩ : ∃ C, C = BC (h : Int) L' := ⟨_, rfl⟩
              have hC1 : ¬ ((L'.length : Int) + 1 < (C : Int)) := by have := bc_le (h : Int) L'; omega
              have hC2 : ¬ ((C : Int) < 1) := by have := bc_pos (h : Int) L'; omega
              have hC3 : (C : Int) ≤ 1000 := by have := bc_le (h : Int) L'; have := HL2.out; omega
              have hll : (L'.length : Int) ≤ 1000 := by have := HL2.out; omega
              rw [← hC] at HS2
              have HCC := Lib.hid hC
              clear hC
              refine (LiveI HS2.out).mono ?_
              rintro e wx ⟨rfl, rfl⟩
              go_wp2_with ((go_at_call 18; refine (LiveI HS2.out).mono ?_; rintro e wx ⟨rfl, rfl⟩))
              go_loopw [7] (fun i wr2 => ∃ q : Nat, q ≤ L'.length ∧ i = .int .i64 (q : Int) ∧ Below w2.heap.size w2 wr2) (fun i _ => L'.length - (intOf i).toNat)
              case atStart => exact ⟨0, by omega, rfl, Below.refl _ _⟩
              case round =>
                obtain ⟨q, hq, rfl, hbq⟩ := hrel
                have HBQ := Lib.hid hbq
                clear hbq
                by_cases hql : q < L'.length
                · have hq1 : (q : Int) < (L'.length : Int) := by omega
                  obtain ⟨x, hx⟩ : ∃ x, L'[q]? = some x := ⟨_, List.getElem?_eq_getElem hql⟩
                  have hxm : x ∈ L' := List.mem_of_getElem? hx
                  obtain ⟨hx1, hx2⟩ := HM2.out x hxm
                  have hxh : x ≤ 1000 := by have := HH2.out; omega
                  obtain ⟨hF, hcnt⟩ := bf_held (h := (h : Int)) hxm
                  obtain ⟨gg, off, hA⟩ := HF2.out.2.2.1 q hql
                  subst hA
                  have hcells := (HF2.out.2.2.2 gg off rfl).2.1 q (.int .i64 x) (by rw [List.getElem?_map, hx]; rfl)
                  have hcell2 : wr.cell? ⟨gg, off + q, none⟩ = some (.int .i64 x) := (HBQ.out.cell (p := ⟨gg, off + q, none⟩) (World.block_lt_of_cell? w2 _ hcells)).trans hcells
                  have hwx : (Lit.int .i64 x).wf = true := WalkArith.wf_i64 (by omega)
                  have HSQ := Lib.hid (HS2.out.below HBQ.out HS2.out.lt.1 HS2.out.lt.2)
                  have hget := AtI_of (getI HSQ.out x hwx)
                  rw [show atI (BF (h : Int) L') x = (7 * x, (L'.count x : Int)) by unfold atI; rw [hF]; rfl, hF] at hget
                  have QA := Lib.hid hget
                  have HW := Lib.hid (And.intro hF hwx)
                  obtain ⟨ct, hct⟩ : ∃ ct, ct = L'.count x := ⟨_, rfl⟩
                  have hct1 : ¬ ((ct : Int) < 1) := by omega
                  have HCT := Lib.hid hct
                  have HC2 := Lib.hid hcells
                  clear hget hF hwx hxm hx hcells hct hcnt
                  go_wp2_with fail
                  refine QA.out.mono ?_
                  rintro e w3 ⟨rfl, b3⟩
                  rw [show retAtI (7 * x, (L'.count x : Int)) (some (7 * x, (L'.count x : Int))).isSome = .tuple #[.int .i64 (7 * x), .bool true] from rfl]
                  have HB3 := Lib.hid (HBQ.out.trans (b3.mono HBQ.out.size))
                  have hcell3 : w3.cell? ⟨gg, off + q, none⟩ = some (.int .i64 x) := (HB3.out.cell (p := ⟨gg, off + q, none⟩) (World.block_lt_of_cell? w2 _ HC2.out)).trans HC2.out
                  have HS3 := HS2.out.below HB3.out HS2.out.lt.1 HS2.out.lt.2
                  have hpin := PinsI_of (getI HS3 x HW.out.2)
                  rw [show (atI (BF (h : Int) L') x).2 = (ct : Int) by unfold atI; rw [HW.out.1, HCT.out]; rfl] at hpin
                  have QP := Lib.hid hpin
                  clear b3 HS3 hpin hcell2
                  go_wp2_with fail
                  refine QP.out.mono ?_
                  rintro e w4 ⟨rfl, b4⟩
                  have HB4 := Lib.hid (HB3.out.trans (b4.mono HB3.out.size))
                  clear b4 hcell3
                  go_wp2_with fail
                  go_roundw
                  case rel => exact ⟨q + 1, by omega, by go_num, HB4.out⟩
                  case measure => simp [intOf]; omega
                · go_wp2_with fail
                  go_roundw
                  case rel =>
                    have hsq := HS2.out.below HBQ.out HS2.out.lt.1 HS2.out.lt.2
                    have htq := HT2.out.below HBQ.out
                    exact ⟨k + 1, h, L', (N + 1), by omega, by omega, by go_num, by go_num, by omega, HL2.out, by omega, HM2.out, by rw [HCC.out] at hsq; exact hsq, htq, HK2.out.trans (Keep2.of_below HBQ.out)⟩
                  case measure => simp [intOf]; omega
            · have hc8 : ¬ ((c1 : Int) = 1) := by omega
              have HDR := Lib.hid (show TlG wr w1.heap.size 3 (.slice (some ⟨gg, off + 1, none⟩) L'.length (c1 - 1)) (L'.map (Value.int .i64)) by
                have h := HTT.out.drop (k := 1) (by rw [List.length_map, HN0.out.2]; simp)
                rw [if_neg hc9] at h
                have e : n0 - 1 = L'.length := by have := HN0.out.1; omega
                rw [e, HN0.out.2] at h
                simpa [Addr.add_lit] using h)
              go_wp2_with fail
              refine QR.out.mono ?_
              rintro e w2 ⟨rfl, s2, k2⟩
              have HS2 := Lib.hid s2
              have HT2 := Lib.hid (tl_keep HDR.out k2 HGB.out.1 HGB.out.2)
              have HK2 := Lib.hid (HK.out.trans k2)
              have HM2 := Lib.hid (fun x (hx : x ∈ L') => HMM.out x (by rw [HN0.out.2]; exact List.mem_cons_of_mem _ hx))
              have HL2 := Lib.hid (show L'.length ≤ k + 1 by have h := congrArg List.length HN0.out.2; rw [List.length_cons] at h; omega)
              have HH2 := Lib.hid (show (h : Int) ≤ 101 by omega)
              have HF2 := Lib.hid (show L'.length ≤ c1 - 1 ∧ c1 - 1 ≤ maxLen ∧ (∀ q, q < L'.length → ∃ g off', some (⟨gg, off + 1, none⟩ : Addr) = some ⟨g, off', none⟩) ∧ ∀ g off', some (⟨gg, off + 1, none⟩ : Addr) = some ⟨g, off', none⟩ → w1.heap.size ≤ g ∧ (∀ j u, (L'.map (Value.int .i64))[j]? = some u → w2.cell? ⟨g, off' + j, none⟩ = some u) ∧ ∀ j, j < (L'.map (Value.int .i64)).length → w2.frozen? ⟨g, off' + j, none⟩ = false from ⟨by have := HN0.out.1; have := HF.out.1; omega, by have := HF.out.2.1; omega, fun _ _ => ⟨_, _, rfl⟩, form_of HT2.out⟩)
              clear s2 k2
              go_wp2_with fail
              have e9 : n0 - 1 = L'.length := by have := HN0.out.1; omega
              rw [e9]
              clear e9
              generalize hA5 : some (⟨gg, off + 1, none⟩ : Addr) = A5 at HT2 HF2 ⊢
              clear hA5
              obtain ⟨C, hC⟩ : ∃ C, C = BC (h : Int) L' := ⟨_, rfl⟩
              have hC1 : ¬ ((L'.length : Int) + 1 < (C : Int)) := by have := bc_le (h : Int) L'; omega
              have hC2 : ¬ ((C : Int) < 1) := by have := bc_pos (h : Int) L'; omega
              have hC3 : (C : Int) ≤ 1000 := by have := bc_le (h : Int) L'; have := HL2.out; omega
              have hll : (L'.length : Int) ≤ 1000 := by have := HL2.out; omega
              rw [← hC] at HS2
              have HCC := Lib.hid hC
              clear hC
              refine (LiveI HS2.out).mono ?_
              rintro e wx ⟨rfl, rfl⟩
              go_wp2_with ((go_at_call 18; refine (LiveI HS2.out).mono ?_; rintro e wx ⟨rfl, rfl⟩))
              go_loopw [7] (fun i wr2 => ∃ q : Nat, q ≤ L'.length ∧ i = .int .i64 (q : Int) ∧ Below w2.heap.size w2 wr2) (fun i _ => L'.length - (intOf i).toNat)
              case atStart => exact ⟨0, by omega, rfl, Below.refl _ _⟩
              case round =>
                obtain ⟨q, hq, rfl, hbq⟩ := hrel
                have HBQ := Lib.hid hbq
                clear hbq
                by_cases hql : q < L'.length
                · have hq1 : (q : Int) < (L'.length : Int) := by omega
                  obtain ⟨x, hx⟩ : ∃ x, L'[q]? = some x := ⟨_, List.getElem?_eq_getElem hql⟩
                  have hxm : x ∈ L' := List.mem_of_getElem? hx
                  obtain ⟨hx1, hx2⟩ := HM2.out x hxm
                  have hxh : x ≤ 1000 := by have := HH2.out; omega
                  obtain ⟨hF, hcnt⟩ := bf_held (h := (h : Int)) hxm
                  obtain ⟨gg, off, hA⟩ := HF2.out.2.2.1 q hql
                  subst hA
                  have hcells := (HF2.out.2.2.2 gg off rfl).2.1 q (.int .i64 x) (by rw [List.getElem?_map, hx]; rfl)
                  have hcell2 : wr.cell? ⟨gg, off + q, none⟩ = some (.int .i64 x) := (HBQ.out.cell (p := ⟨gg, off + q, none⟩) (World.block_lt_of_cell? w2 _ hcells)).trans hcells
                  have hwx : (Lit.int .i64 x).wf = true := WalkArith.wf_i64 (by omega)
                  have HSQ := Lib.hid (HS2.out.below HBQ.out HS2.out.lt.1 HS2.out.lt.2)
                  have hget := AtI_of (getI HSQ.out x hwx)
                  rw [show atI (BF (h : Int) L') x = (7 * x, (L'.count x : Int)) by unfold atI; rw [hF]; rfl, hF] at hget
                  have QA := Lib.hid hget
                  have HW := Lib.hid (And.intro hF hwx)
                  obtain ⟨ct, hct⟩ : ∃ ct, ct = L'.count x := ⟨_, rfl⟩
                  have hct1 : ¬ ((ct : Int) < 1) := by omega
                  have HCT := Lib.hid hct
                  have HC2 := Lib.hid hcells
                  clear hget hF hwx hxm hx hcells hct hcnt
                  go_wp2_with fail
                  refine QA.out.mono ?_
                  rintro e w3 ⟨rfl, b3⟩
                  rw [show retAtI (7 * x, (L'.count x : Int)) (some (7 * x, (L'.count x : Int))).isSome = .tuple #[.int .i64 (7 * x), .bool true] from rfl]
                  have HB3 := Lib.hid (HBQ.out.trans (b3.mono HBQ.out.size))
                  have hcell3 : w3.cell? ⟨gg, off + q, none⟩ = some (.int .i64 x) := (HB3.out.cell (p := ⟨gg, off + q, none⟩) (World.block_lt_of_cell? w2 _ HC2.out)).trans HC2.out
                  have HS3 := HS2.out.below HB3.out HS2.out.lt.1 HS2.out.lt.2
                  have hpin := PinsI_of (getI HS3 x HW.out.2)
                  rw [show (atI (BF (h : Int) L') x).2 = (ct : Int) by unfold atI; rw [HW.out.1, HCT.out]; rfl] at hpin
                  have QP := Lib.hid hpin
                  clear b3 HS3 hpin hcell2
                  go_wp2_with fail
                  refine QP.out.mono ?_
                  rintro e w4 ⟨rfl, b4⟩
                  have HB4 := Lib.hid (HB3.out.trans (b4.mono HB3.out.size))
                  clear b4 hcell3
                  go_wp2_with fail
                  go_roundw
                  case rel => exact ⟨q + 1, by omega, by go_num, HB4.out⟩
                  case measure => simp [intOf]; omega
                · go_wp2_with fail
                  go_roundw
                  case rel =>
                    have hsq := HS2.out.below HBQ.out HS2.out.lt.1 HS2.out.lt.2
                    have htq := HT2.out.below HBQ.out
                    exact ⟨k + 1, h, L', (N + 1), by omega, by omega, by go_num, by go_num, by omega, HL2.out, by omega, HM2.out, by rw [HCC.out] at hsq; exact hsq, htq, HK2.out.trans (Keep2.of_below HBQ.out)⟩
                  case measure => simp [intOf]; omega
    · by_cases h3 : k < l.length
      · have h4 : (k : Int) < (l.length : Int) := by omega
        have h5 : ¬ ((k : Int) < 100) := by omega
        clear hlt
        go_wp2_with ((go_at_call 20; refine (awake_any _).mono ?_; rintro e wx ⟨rfl, hb⟩))
        go_ret
        exact ⟨rfl, HL.out.2.2.trans ((HK.out.trans (Keep2.of_below hb)).below HL.out.1 HL.out.2.1 HL.out.2.2.size)⟩
      · have h4 : decide (k < l.length) = false := by simpa using h3
        have h5 : decide ((k : Int) < (l.length : Int)) = false := by simpa using h3
        clear hlt
        go_wp2_with ((go_at_call 20; refine (awake_any _).mono ?_; rintro e wx ⟨rfl, hb⟩))
        go_ret
        exact ⟨rfl, HL.out.2.2.trans ((HK.out.trans (Keep2.of_below hb)).below HL.out.1 HL.out.2.1 HL.out.2.2.size)⟩
end Go.Proofs.Ytagfehfggkehmaa.VersionBounds
