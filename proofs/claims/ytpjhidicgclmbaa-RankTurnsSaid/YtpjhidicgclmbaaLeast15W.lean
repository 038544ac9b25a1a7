/-
  RankLeast's walk.
-/
import Derived.Test.YtpjhidicgclmbaaPairs15W
import Derived.Deep.RegionHeld3
namespace Go.Proofs.Ytpjhidicgclmbaa
set_option linter.unusedVariables false
set_option linter.unusedSimpArgs false
open Go.RowKit

theorem load_exec {w : World} {g off : Nat} {c : Cv} {a : Act} {o : Oper} (p : Operand) (hop : o.op = Op.load 34 p) (hp : a.eval p = .pointer (some ⟨g, off, none⟩)) (h : CvAt w g off c) : (execOp a.eval o).run Try.prog w = .ok (.value c.agg) w := by
  simp [execOp, hop, hp, run_loadC h, Result.andThen]
/-- What is known of the best one against another one. -/
theorem least_facts {L : List Cv} (hne : 0 < L.length) : ∃ (k : Nat) (x : Cv), bestZ L = (k : Int) ∧ k < L.length ∧ L[k]? = some x ∧ ∀ (i : Nat) (y : Cv), L[i]? = some y →
    ¬ prefN x < prefN y ∧ (prefN y = prefN x → ¬ cntN y.path < cntN x.path ∧ (cntN y.path = cntN x.path → ¬ y.org < x.org ∧ (y.org = x.org → y.near = x.near → ¬ medN y < medN x))) := by
  rcases among_best (keyL_z L) (l := List.range L.length) List.pairwise_lt_range with ⟨h, _⟩ | ⟨k, hk, h1, h2⟩
  · have := congrArg List.length h
    simp at this
    subst this
    simp at hne
  · have hkl := List.mem_range.1 hk
    obtain ⟨x, hx⟩ : ∃ x, L[k]? = some x := ⟨_, List.getElem?_eq_getElem hkl⟩
    refine ⟨k, x, h1, hkl, hx, fun i y hy => ?_⟩
    have hil := (List.getElem?_eq_some_iff.1 hy).1
    have hm : keyL L i ∈ (List.range L.length).map (keyL L) := List.mem_map_of_mem (List.mem_range.2 hil)
    have hp := h2.1.2.1 _ hm
    have hd := h2.1.2.2 _ hm
    rw [keyL_at hx, keyL_at hy] at hp hd
    have hp' : ¬ (-(prefN y) < -(prefN x) ∨ (-(prefN y) = -(prefN x) ∧ ((cntN y.path : Int) < (cntN x.path : Int) ∨ ((cntN y.path : Int) = (cntN x.path : Int) ∧ y.org < x.org)))) := hp
    refine ⟨by omega, fun e1 => ⟨by omega, fun e2 => ⟨by omega, fun e3 e4 => ?_⟩⟩⟩
    have hd' : ¬ (-(prefN x) < -(prefN y) ∨ (-(prefN x) = -(prefN y) ∧ ((cntN x.path : Int) < (cntN y.path : Int) ∨ ((cntN x.path : Int) = (cntN y.path : Int) ∧ x.org < y.org)))) → y.near = x.near → medN x ≤ medN y := hd
    have := hd' (by omega) e4
    omega
theorem CandsIn.inn {w : World} {B : Nat} {A : Option Addr} {L : List Cv} (h : CandsIn w B A L) {j : Nat} {s : Cv} (hj : L[j]? = some s) : s.In w B := by
  obtain ⟨_, _, _, _, _, h6⟩ := h.at hj
  exact h6
theorem CandsIn.row {w : World} {B b off : Nat} {L : List Cv} (h : CandsIn w B (some ⟨b, off, none⟩) L) {j : Nat} {s : Cv} (hj : L[j]? = some s) : CvAt w b (off + j * 16) s := by
  obtain ⟨b', off', e, _, h5, _⟩ := h.at hj
  injection e with e
  injection e with e1 e2
  subst e1; subst e2
  exact h5
def LeastRel (w : World) (n gx : Nat) (x : Cv) (i : Value) (wr : World) : Prop :=
  Below w.heap.size w wr ∧ gx < wr.heap.size ∧ CvAt wr gx 0 x ∧ ∃ k : Nat, k ≤ n ∧ i = .int .i64 (k : Int)
theorem cv_grown {w w' : World} {g g' off : Nat} {c : Cv} (h : CvAt w g off c) (hg : w.grownBy w' (some g')) (hne : g ≠ g') : CvAt w' g off c := fun i u hu => hg.cell (h i u hu) (by simpa using hne)

set_option maxRecDepth 100000 in
set_option maxHeartbeats 25600000 in
theorem RankLeast.walk (a : Option Addr) (c : Nat) (L : List Cv) (W : World) (h : CandsIn W W.heap.size a L) (hw : ∀ s ∈ L, Wt reachBytes s.path) :
    Calls Try.prog 6 #[.slice a L.length c] W fun e w' => e = .returned (.bool true) ∧ Below W.heap.size W w' := by
  have HC := Lib.hid h; have HW := Lib.hid hw
  have QF := Lib.hid (few_any a c L 40 W h (by decide))
  have QA := Lib.hid (fun W => awake15_any W)
  have e40 : ((40 : Nat) : Int) = 40 := rfl
  rw [e40] at QF
  clear h hw e40
  go_enter Try.func6, Try.ntmps6
  go_wp2_with fail
  refine QF.out.mono ?_
  rintro e w1 ⟨b, rfl, hfew, hb1⟩
  have HB1 := Lib.hid hb1
  have aw : ∀ (b : Bool), True := fun _ => trivial
  clear aw QF
  cases b with
  | false =>
    clear hfew hb1
    go_wp2_with fail
    refine (QA.out _).mono ?_
    rintro e w2 ⟨rfl, hb2⟩
    have HB2 := Lib.hid (HB1.out.trans (hb2.mono HB1.out.size))
    clear hb2
    go_wp2_with fail
    go_ret
    exact ⟨rfl, HB2.out⟩
  | true =>
    obtain ⟨hlen, hall⟩ := hfew rfl
    have HK := Lib.hid (cnts_ok HW.out hall)
    by_cases h0 : L.length = 0
    · have h0I : ((L.length : Int) == 0) = true := by simp [h0]
      clear hfew hb1 hlen hall h0
      go_wp2_with fail
      refine (QA.out _).mono ?_
      rintro e w2 ⟨rfl, hb2⟩
      have HB2 := Lib.hid (HB1.out.trans (hb2.mono HB1.out.size))
      clear hb2
      go_wp2_with fail
      go_ret
      exact ⟨rfl, HB2.out⟩
    · have h0I : ((L.length : Int) == 0) = false := by simpa using h0
      obtain ⟨k, x, hbz, hkl, hx, hfacts⟩ := least_facts (L := L) (by omega)
      have Q1 := Lib.hid (Best_any a c L w1 (HC.out.go hb1) HK.out (by omega))
      rw [hbz] at Q1
      have HX := Lib.hid hx; have HF := Lib.hid hfacts; have HLEN := Lib.hid hlen
      clear hfew hb1 hlen hall h0 hbz hx hfacts
      go_wp2_with fail
      refine Q1.out.mono ?_
      rintro e w2 ⟨rfl, hb2⟩
      have HB2 := Lib.hid (HB1.out.trans (hb2.mono HB1.out.size))
      clear hb2 Q1
      obtain ⟨bl, off, rfl, hbl, hrowx, hinx⟩ := (HC.out.go HB2.out).at HX.out
      have HRX := Lib.hid (show CvAt w2 bl (off + k * 16) x from hrowx)
      clear hrowx hinx
      have hneg : ¬ (k : Int) < 0 := by omega
      go_wp2_with (first
        | (refine wpList_loadC _ rfl (.tmp 30) rfl bl (off + k * 16) x rfl HRX.out ?_)
        | (refine wpList_storeC _ rfl rfl (.tmp 4) (.tmp 31) rfl _ _ _ x rfl rfl (Blk.new _ _ _) rfl ?_))
      intro w3 hbx hgx
      have HB3 := Lib.hid (HB2.out.trans (((Below.refl w2.heap.size w2).alloc (Nat.le_refl _) _ |>.grown hgx (by simp) (fun q hq => by simp at hq; omega)).mono HB2.out.size))
      obtain ⟨gx, hgxe⟩ : ∃ g, g = w2.heap.size := ⟨_, rfl⟩
      rw [← hgxe] at hbx ⊢
      have HCX := Lib.hid (cv_blk hbx)
      have HGX := Lib.hid hbx.lt
      clear hbx hgx hgxe HRX
      go_wp2_with fail
      go_loopw [5] (fun i wr => LeastRel W L.length gx x i wr) (fun i _ => L.length - (intOf i).toNat)
      case atStart => exact ⟨HB3.out, HGX.out, HCX.out, 0, Nat.zero_le _, rfl⟩
      case round =>
        obtain ⟨hbr, hgr, hcx, i, hi, rfl⟩ := hrel
        clear HB3 HCX HGX
        by_cases hlt : i < L.length
        · obtain ⟨y, hy⟩ : ∃ y, L[i]? = some y := ⟨_, List.getElem?_eq_getElem hlt⟩
          have hiny := (HC.out.go hbr).inn hy
          have hrowy := (HC.out.go hbr).row hy
          have hinx := (HC.out.go hbr).inn HX.out
          have HRY := Lib.hid (show CvAt wr bl (off + i * 16) y from hrowy)
          obtain ⟨f1, f2⟩ := HF.out i y hy
          have HIN := Lib.hid (And.intro hiny hinx)
          have HKK := Lib.hid (And.intro (HK.out y (List.mem_of_getElem? hy)) (HK.out x (List.mem_of_getElem? HX.out)))
          have HBR := Lib.hid hbr; have HGR := Lib.hid hgr; have HCX := Lib.hid hcx; have HLT := Lib.hid hlt
          have hib : i + 1 ≤ 1000 := by have := HLEN.out; omega
          clear hy hrowy hiny hinx hbr hgr hcx
          go_wp2_with (first
            | (refine wpList_loadC _ rfl (.tmp 40) rfl bl (off + i * 16) y rfl HRY.out ?_)
            | (refine wpList_storeC _ rfl rfl (.tmp 6) (.tmp 41) rfl _ _ _ y rfl rfl (Blk.new _ _ _) rfl ?_))
          intro w4 hby hgy
          have hb4 : Below wr.heap.size wr w4 := ((Below.refl wr.heap.size wr).alloc (Nat.le_refl _) _).grown hgy (by simp) (fun q hq => by simp at hq; omega)
          have hcx4 := HCX.out.below hb4 HGR.out
          have hgx4 : gx < w4.heap.size := Nat.lt_of_lt_of_le HGR.out hb4.size
          have hgy4 := hby.lt
          obtain ⟨gy, hgye⟩ : ∃ g, g = wr.heap.size := ⟨_, rfl⟩
          rw [← hgye] at hby hgy4 ⊢
          have HS := Lib.hid (fun (w : World) (hb : Below w4.heap.size w4 w) => And.intro ((cv_blk hby).below hb hgy4) (hcx4.below hb hgx4))
          have HB4 := Lib.hid (HBR.out.trans (hb4.mono HBR.out.size))
          have HIN4 := Lib.hid (fun (w : World) (hb : Below w4.heap.size w4 w) => And.intro (HIN.out.1.go (hb4.trans (hb.mono hb4.size))) (HIN.out.2.go (hb4.trans (hb.mono hb4.size))))
          have HGX4 := Lib.hid hgx4
          have QPy := Lib.hid (fun w => Pref_any y w)
          have QPx := Lib.hid (fun w => Pref_any x w)
          have QMy := Lib.hid (fun w => Med_any y w)
          have QMx := Lib.hid (fun w => Med_any x w)
          obtain ⟨py, hpy⟩ : ∃ p, p = prefN y := ⟨_, rfl⟩
          obtain ⟨px, hpx⟩ : ∃ p, p = prefN x := ⟨_, rfl⟩
          obtain ⟨my, hmy⟩ : ∃ p, p = medN y := ⟨_, rfl⟩
          obtain ⟨mx, hmx⟩ : ∃ p, p = medN x := ⟨_, rfl⟩
          rw [← hpy] at QPy; rw [← hpx] at QPx; rw [← hmy] at QMy; rw [← hmx] at QMx
          rw [← hpy, ← hpx] at f1
          rw [← hpy, ← hpx, ← hmy, ← hmx] at f2
          have F2 := Lib.hid f2
          clear hby hgy hb4 hcx4 hgx4 hgy4 hgye hpy hpx hmy hmx HRY HCX HGR HBR f2 HIN
          have hE4 : Below w4.heap.size w4 w4 := Below.refl _ _
          go_wp2_with fail
          by_cases hpp : py = px
          · have F3 := Lib.hid (F2.out hpp)
            have hne : (py != px) = false := by simpa using hpp
            clear hpp F2
            have hD_ := Below.drew hE4
            refine wp_region_held_drew (S := fun w' => CvAt w' gy 0 y ∧ CvAt w' gx 0 x) (by kernel_rfl) (HS.out _ hD_) (fun hHeld => ?_)
            refine wpAnyH_take (i := 0) (v := y.agg) rfl (by kernel_rfl) (by kernel_rfl) (by kernel_rfl) (fun _ _ _ h => h) (Or.inl ⟨by rfl, ?_⟩) (by assumption) ?_
            · intro w hSw; exact load_exec _ rfl rfl hSw.1
            try simp only [List.getElem_toArray, List.getElem_cons_zero, List.getElem_cons_succ, Act.put, List.setIfInBounds_toArray, List.set_cons_zero, List.set_cons_succ]
            refine wpAnyH_take (i := 2) (v := x.agg) rfl (by kernel_rfl) (by kernel_rfl) (by kernel_rfl) (fun _ _ _ h => h) (Or.inl ⟨by rfl, ?_⟩) (by assumption) ?_
            · intro w hSw; exact load_exec _ rfl rfl hSw.2
            try simp only [List.getElem_toArray, List.getElem_cons_zero, List.getElem_cons_succ, Act.put, List.setIfInBounds_toArray, List.set_cons_zero, List.set_cons_succ]
            refine wpAnyH_ready (rs := [1]) (by kernel_rfl) (by simp) ?_
            refine AllReadyH.cons (o := _) rfl (fun K hK => ?_) AllReadyH.nil
            rw [if_pos (by rfl)]
            go_simp
            go_at_call 16
            refine (QPy.out _).mono ?_
            rintro e wa ⟨rfl, hg⟩
            have hA_ := below_two hD_ hg
            clear hg
            go_wp2_with fail
            refine hK.out _ _ (HS.out _ hA_) (fun hHeld2 => ?_)
            clear hK K hHeld
            have hHeld := hHeld2
            clear hHeld2
            try simp only [List.getElem_toArray, List.getElem_cons_zero, List.getElem_cons_succ, Act.put, List.setIfInBounds_toArray, List.set_cons_zero, List.set_cons_succ]
            refine wpAnyH_ready (rs := [3]) (by kernel_rfl) (by simp) ?_
            refine AllReadyH.cons (o := _) rfl (fun K hK => ?_) AllReadyH.nil
            rw [if_pos (by rfl)]
            go_simp
            go_at_call 16
            refine (QPx.out _).mono ?_
            rintro e wb ⟨rfl, hg⟩
            have hR := below_two hA_ hg
            clear hg
            go_wp2_with fail
            refine hK.out _ _ (HS.out _ hR) (fun hHeld2 => ?_)
            clear hK K hHeld
            have hHeld := hHeld2
            clear hHeld2
            try simp only [List.getElem_toArray, List.getElem_cons_zero, List.getElem_cons_succ, Act.put, List.setIfInBounds_toArray, List.set_cons_zero, List.set_cons_succ]
            refine wpAnyH_take (i := 4) (v := ?_) rfl (by kernel_rfl) (by kernel_rfl) (by kernel_rfl) (fun _ _ _ h => h) (Or.inl ⟨by rfl, ?_⟩) (by assumption) ?_
            rotate_left
            · intro w hSw; (try dsimp only at hSw); obtain ⟨hS1, hS2⟩ := hSw; go_simp; (try with_reducible rfl)
            try simp only [List.getElem_toArray, List.getElem_cons_zero, List.getElem_cons_succ, Act.put, List.setIfInBounds_toArray, List.set_cons_zero, List.set_cons_succ]
            clear hHeld hA_ hD_
            refine wpAnyH_done (by kernel_rfl) ?_ _
            obtain ⟨w5, hw5⟩ : ∃ w, w = wb := ⟨_, rfl⟩
            subst hw5
            have QCy := fun n => Lib.hid ((RefCount_any y.pathA y.pathC y.path (w5.drewN n) (HIN4.out _ (below_drewN hR n)).1.path (HIN4.out _ (below_drewN hR n)).1.pathC.1 (HIN4.out _ (below_drewN hR n)).1.pathC.2 HKK.out.1).mono fun e w' (h : _ ∧ _) => (⟨h.1, h.2.symm⟩ : e = _ ∧ w' = w5.drewN n))
            have QCx := fun n => Lib.hid ((RefCount_any x.pathA x.pathC x.path (w5.drewN n) (HIN4.out _ (below_drewN hR n)).2.path (HIN4.out _ (below_drewN hR n)).2.pathC.1 (HIN4.out _ (below_drewN hR n)).2.pathC.2 HKK.out.2).mono fun e w' (h : _ ∧ _) => (⟨h.1, h.2.symm⟩ : e = _ ∧ w' = w5.drewN n))
            obtain ⟨ny, hny⟩ : ∃ n, n = cntN y.path := ⟨_, rfl⟩
            obtain ⟨nx, hnx⟩ : ∃ n, n = cntN x.path := ⟨_, rfl⟩
            rw [← hny] at QCy; rw [← hnx] at QCx
            have F4 := F3.out
            rw [← hny, ← hnx] at F4
            obtain ⟨g1, g2⟩ := F4
            have F5 := Lib.hid g2
            clear g2 F3 hny hnx
            have HR := Lib.hid hR
            obtain ⟨hsy, hsx⟩ := HS.out w5 hR
            have cy6 : w5.cell? ⟨gy, 6, none⟩ = some (.slice y.pathA y.path.length y.pathC) := by have := hsy 6 _ rfl; rwa [Nat.zero_add] at this
            have cx6 : w5.cell? ⟨gx, 6, none⟩ = some (.slice x.pathA x.path.length x.pathC) := by have := hsx 6 _ rfl; rwa [Nat.zero_add] at this
            have cy5 : w5.cell? ⟨gy, 5, none⟩ = some (.int .i64 y.org) := by have := hsy 5 _ rfl; rwa [Nat.zero_add] at this
            have cx5 : w5.cell? ⟨gx, 5, none⟩ = some (.int .i64 x.org) := by have := hsx 5 _ rfl; rwa [Nat.zero_add] at this
            have cy2 : w5.cell? ⟨gy, 2, none⟩ = some (.int .u32 y.near) := by have := hsy 2 _ rfl; rwa [Nat.zero_add] at this
            have cx2 : w5.cell? ⟨gx, 2, none⟩ = some (.int .u32 x.near) := by have := hsx 2 _ rfl; rwa [Nat.zero_add] at this
            have hltc : ¬ (ny : Int) < (nx : Int) := by omega
            clear hsy hsx hR hE4 g1
            go_wp2_with fail
            go_quiet ((first | (go_at_call_of 17 y; exact Calls.quiet_of_same (QCy _).out) | (go_at_call_of 17 x; exact Calls.quiet_of_same (QCx _).out)))
            clear QCy QCx
            by_cases hnn : ny = nx
            · obtain ⟨h1, F6'⟩ := F5.out hnn
              have F6 := Lib.hid F6'
              have hnn2 : ((ny : Int) == (nx : Int)) = true := by simpa using (show (ny : Int) = (nx : Int) by omega)
              clear hnn F5 F6'
              by_cases hoo : y.org = x.org
              · by_cases hee : y.near = x.near
                · have hmm := F6.out hoo hee
                  have hoo2 : (y.org == x.org) = true := by simpa using hoo
                  have hol := h1
                  have hne2 : (y.near == x.near) = true := by simpa using hee
                  clear hoo h1 hee F6
                  go_wp2_with fail
                  refine wp_region_held_drew (S := fun w' => CvAt w' gy 0 y ∧ CvAt w' gx 0 x) (by kernel_rfl) (HS.out _ ((below_drewN HR.out _).drew)) (fun hHeld => ?_)
                  refine wpAnyH_take (i := 0) (v := ?_) rfl (by kernel_rfl) (by kernel_rfl) (by kernel_rfl) (fun _ _ _ h => h) (Or.inl ⟨by rfl, ?_⟩) (by assumption) ?_
                  rotate_left
                  · intro w hSw; skip; go_simp; (try with_reducible rfl)
                  try simp only [List.getElem_toArray, List.getElem_cons_zero, List.getElem_cons_succ, Act.put, List.setIfInBounds_toArray, List.set_cons_zero, List.set_cons_succ]
                  refine wpAnyH_take (i := 1) (v := ?_) rfl (by kernel_rfl) (by kernel_rfl) (by kernel_rfl) (fun _ _ _ h => h) (Or.inl ⟨by rfl, ?_⟩) (by assumption) ?_
                  rotate_left
                  · intro w hSw; skip; go_simp; (try with_reducible rfl)
                  try simp only [List.getElem_toArray, List.getElem_cons_zero, List.getElem_cons_succ, Act.put, List.setIfInBounds_toArray, List.set_cons_zero, List.set_cons_succ]
                  refine wpAnyH_take (i := 2) (v := ?_) rfl (by kernel_rfl) (by kernel_rfl) (by kernel_rfl) (fun _ _ _ h => h) (Or.inl ⟨by rfl, ?_⟩) (by assumption) ?_
                  rotate_left
                  · intro w hSw; skip; go_simp; (try with_reducible rfl)
                  try simp only [List.getElem_toArray, List.getElem_cons_zero, List.getElem_cons_succ, Act.put, List.setIfInBounds_toArray, List.set_cons_zero, List.set_cons_succ]
                  refine wpAnyH_take (i := 3) (v := ?_) rfl (by kernel_rfl) (by kernel_rfl) (by kernel_rfl) (fun _ _ _ h => h) (Or.inl ⟨by rfl, ?_⟩) (by assumption) ?_
                  rotate_left
                  · intro w hSw; skip; go_simp; (try with_reducible rfl)
                  try simp only [List.getElem_toArray, List.getElem_cons_zero, List.getElem_cons_succ, Act.put, List.setIfInBounds_toArray, List.set_cons_zero, List.set_cons_succ]
                  refine wpAnyH_take (i := 4) (v := ?_) rfl (by kernel_rfl) (by kernel_rfl) (by kernel_rfl) (fun _ _ _ h => h) (Or.inl ⟨by rfl, ?_⟩) (by assumption) ?_
                  rotate_left
                  · intro w hSw; skip; go_simp; (try with_reducible rfl)
                  try simp only [List.getElem_toArray, List.getElem_cons_zero, List.getElem_cons_succ, Act.put, List.setIfInBounds_toArray, List.set_cons_zero, List.set_cons_succ]
                  refine wpAnyH_take (i := 5) (v := ?_) rfl (by kernel_rfl) (by kernel_rfl) (by kernel_rfl) (fun _ _ _ h => h) (Or.inl ⟨by rfl, ?_⟩) (by assumption) ?_
                  rotate_left
                  · intro w hSw; skip; go_simp; (try with_reducible rfl)
                  try simp only [List.getElem_toArray, List.getElem_cons_zero, List.getElem_cons_succ, Act.put, List.setIfInBounds_toArray, List.set_cons_zero, List.set_cons_succ]
                  refine wpAnyH_take (i := 6) (v := ?_) rfl (by kernel_rfl) (by kernel_rfl) (by kernel_rfl) (fun _ _ _ h => h) (Or.inl ⟨by rfl, ?_⟩) (by assumption) ?_
                  rotate_left
                  · intro w hSw; have q_ := hSw.1 5 _ rfl; rw [Nat.zero_add] at q_; go_simp; (try with_reducible rfl)
                  try simp only [List.getElem_toArray, List.getElem_cons_zero, List.getElem_cons_succ, Act.put, List.setIfInBounds_toArray, List.set_cons_zero, List.set_cons_succ]
                  refine wpAnyH_take (i := 7) (v := ?_) rfl (by kernel_rfl) (by kernel_rfl) (by kernel_rfl) (fun _ _ _ h => h) (Or.inl ⟨by rfl, ?_⟩) (by assumption) ?_
                  rotate_left
                  · intro w hSw; skip; go_simp; (try with_reducible rfl)
                  try simp only [List.getElem_toArray, List.getElem_cons_zero, List.getElem_cons_succ, Act.put, List.setIfInBounds_toArray, List.set_cons_zero, List.set_cons_succ]
                  refine wpAnyH_take (i := 8) (v := ?_) rfl (by kernel_rfl) (by kernel_rfl) (by kernel_rfl) (fun _ _ _ h => h) (Or.inl ⟨by rfl, ?_⟩) (by assumption) ?_
                  rotate_left
                  · intro w hSw; skip; go_simp; (try with_reducible rfl)
                  try simp only [List.getElem_toArray, List.getElem_cons_zero, List.getElem_cons_succ, Act.put, List.setIfInBounds_toArray, List.set_cons_zero, List.set_cons_succ]
                  refine wpAnyH_take (i := 9) (v := ?_) rfl (by kernel_rfl) (by kernel_rfl) (by kernel_rfl) (fun _ _ _ h => h) (Or.inl ⟨by rfl, ?_⟩) (by assumption) ?_
                  rotate_left
                  · intro w hSw; have q_ := hSw.2 5 _ rfl; rw [Nat.zero_add] at q_; go_simp; (try with_reducible rfl)
                  try simp only [List.getElem_toArray, List.getElem_cons_zero, List.getElem_cons_succ, Act.put, List.setIfInBounds_toArray, List.set_cons_zero, List.set_cons_succ]
                  refine wpAnyH_take (i := 10) (v := ?_) rfl (by kernel_rfl) (by kernel_rfl) (by kernel_rfl) (fun _ _ _ h => h) (Or.inl ⟨by rfl, ?_⟩) (by assumption) ?_
                  rotate_left
                  · intro w hSw; skip; go_simp; (try with_reducible rfl)
                  try simp only [List.getElem_toArray, List.getElem_cons_zero, List.getElem_cons_succ, Act.put, List.setIfInBounds_toArray, List.set_cons_zero, List.set_cons_succ]
                  refine wpAnyH_take (i := 11) (v := ?_) rfl (by kernel_rfl) (by kernel_rfl) (by kernel_rfl) (fun _ _ _ h => h) (Or.inl ⟨by rfl, ?_⟩) (by assumption) ?_
                  rotate_left
                  · intro w hSw; skip; go_simp; (try with_reducible rfl)
                  try simp only [List.getElem_toArray, List.getElem_cons_zero, List.getElem_cons_succ, Act.put, List.setIfInBounds_toArray, List.set_cons_zero, List.set_cons_succ]
                  refine wpAnyH_take (i := 12) (v := ?_) rfl (by kernel_rfl) (by kernel_rfl) (by kernel_rfl) (fun _ _ _ h => h) (Or.inl ⟨by rfl, ?_⟩) (by assumption) ?_
                  rotate_left
                  · intro w hSw; skip; go_simp; (try with_reducible rfl)
                  try simp only [List.getElem_toArray, List.getElem_cons_zero, List.getElem_cons_succ, Act.put, List.setIfInBounds_toArray, List.set_cons_zero, List.set_cons_succ]
                  refine wpAnyH_take (i := 13) (v := ?_) rfl (by kernel_rfl) (by kernel_rfl) (by kernel_rfl) (fun _ _ _ h => h) (Or.inl ⟨by rfl, ?_⟩) (by assumption) ?_
                  rotate_left
                  · intro w hSw; skip; go_simp; (try with_reducible rfl)
                  try simp only [List.getElem_toArray, List.getElem_cons_zero, List.getElem_cons_succ, Act.put, List.setIfInBounds_toArray, List.set_cons_zero, List.set_cons_succ]
                  refine wpAnyH_take (i := 14) (v := ?_) rfl (by kernel_rfl) (by kernel_rfl) (by kernel_rfl) (fun _ _ _ h => h) (Or.inl ⟨by rfl, ?_⟩) (by assumption) ?_
                  rotate_left
                  · intro w hSw; have q_ := hSw.1 2 _ rfl; rw [Nat.zero_add] at q_; go_simp; (try with_reducible rfl)
                  try simp only [List.getElem_toArray, List.getElem_cons_zero, List.getElem_cons_succ, Act.put, List.setIfInBounds_toArray, List.set_cons_zero, List.set_cons_succ]
                  refine wpAnyH_take (i := 15) (v := ?_) rfl (by kernel_rfl) (by kernel_rfl) (by kernel_rfl) (fun _ _ _ h => h) (Or.inl ⟨by rfl, ?_⟩) (by assumption) ?_
                  rotate_left
                  · intro w hSw; skip; go_simp; (try with_reducible rfl)
                  try simp only [List.getElem_toArray, List.getElem_cons_zero, List.getElem_cons_succ, Act.put, List.setIfInBounds_toArray, List.set_cons_zero, List.set_cons_succ]
                  refine wpAnyH_take (i := 16) (v := ?_) rfl (by kernel_rfl) (by kernel_rfl) (by kernel_rfl) (fun _ _ _ h => h) (Or.inl ⟨by rfl, ?_⟩) (by assumption) ?_
                  rotate_left
                  · intro w hSw; have q_ := hSw.2 2 _ rfl; rw [Nat.zero_add] at q_; go_simp; (try with_reducible rfl)
                  try simp only [List.getElem_toArray, List.getElem_cons_zero, List.getElem_cons_succ, Act.put, List.setIfInBounds_toArray, List.set_cons_zero, List.set_cons_succ]
                  refine wpAnyH_take (i := 17) (v := ?_) rfl (by kernel_rfl) (by kernel_rfl) (by kernel_rfl) (fun _ _ _ h => h) (Or.inl ⟨by rfl, ?_⟩) (by assumption) ?_
                  rotate_left
                  · intro w hSw; skip; go_simp; (try with_reducible rfl)
                  try simp only [List.getElem_toArray, List.getElem_cons_zero, List.getElem_cons_succ, Act.put, List.setIfInBounds_toArray, List.set_cons_zero, List.set_cons_succ]
                  refine wpAnyH_take (i := 18) (v := ?_) rfl (by kernel_rfl) (by kernel_rfl) (by kernel_rfl) (fun _ _ _ h => h) (Or.inl ⟨by rfl, ?_⟩) (by assumption) ?_
                  rotate_left
                  · intro w hSw; skip; go_simp; (try with_reducible rfl)
                  try simp only [List.getElem_toArray, List.getElem_cons_zero, List.getElem_cons_succ, Act.put, List.setIfInBounds_toArray, List.set_cons_zero, List.set_cons_succ]
                  refine wpAnyH_take (i := 19) (v := ?_) rfl (by kernel_rfl) (by kernel_rfl) (by kernel_rfl) (fun _ _ _ h => h) (Or.inl ⟨by rfl, ?_⟩) (by assumption) ?_
                  rotate_left
                  · intro w hSw; skip; go_simp; (try with_reducible rfl)
                  try simp only [List.getElem_toArray, List.getElem_cons_zero, List.getElem_cons_succ, Act.put, List.setIfInBounds_toArray, List.set_cons_zero, List.set_cons_succ]
                  refine wpAnyH_take (i := 20) (v := y.agg) rfl (by kernel_rfl) (by kernel_rfl) (by kernel_rfl) (fun _ _ _ h => h) (Or.inl ⟨by rfl, ?_⟩) (by assumption) ?_
                  · intro w hSw; exact load_exec _ rfl rfl hSw.1
                  try simp only [List.getElem_toArray, List.getElem_cons_zero, List.getElem_cons_succ, Act.put, List.setIfInBounds_toArray, List.set_cons_zero, List.set_cons_succ]
                  refine wpAnyH_take (i := 22) (v := x.agg) rfl (by kernel_rfl) (by kernel_rfl) (by kernel_rfl) (fun _ _ _ h => h) (Or.inl ⟨by rfl, ?_⟩) (by assumption) ?_
                  · intro w hSw; exact load_exec _ rfl rfl hSw.2
                  try simp only [List.getElem_toArray, List.getElem_cons_zero, List.getElem_cons_succ, Act.put, List.setIfInBounds_toArray, List.set_cons_zero, List.set_cons_succ]
                  refine wpAnyH_ready (rs := [21]) (by kernel_rfl) (by simp) ?_
                  refine AllReadyH.cons (o := _) rfl (fun K hK => ?_) AllReadyH.nil
                  rw [if_pos (by rfl)]
                  go_simp
                  go_at_call 18
                  refine (QMy.out _).mono ?_
                  rintro e wa ⟨rfl, hg⟩
                  have hA_ := below_two ((below_drewN HR.out _).drew) hg
                  clear hg
                  go_wp2_with fail
                  refine hK.out _ _ (HS.out _ hA_) (fun hHeld2 => ?_)
                  clear hK K hHeld
                  have hHeld := hHeld2
                  clear hHeld2
                  try simp only [List.getElem_toArray, List.getElem_cons_zero, List.getElem_cons_succ, Act.put, List.setIfInBounds_toArray, List.set_cons_zero, List.set_cons_succ]
                  refine wpAnyH_ready (rs := [23]) (by kernel_rfl) (by simp) ?_
                  refine AllReadyH.cons (o := _) rfl (fun K hK => ?_) AllReadyH.nil
                  rw [if_pos (by rfl)]
                  go_simp
                  go_at_call 18
                  refine (QMx.out _).mono ?_
                  rintro e wb ⟨rfl, hg⟩
                  have hU := below_two hA_ hg
                  clear hg
                  go_wp2_with fail
                  refine hK.out _ _ (HS.out _ hU) (fun hHeld2 => ?_)
                  clear hK K hHeld
                  have hHeld := hHeld2
                  clear hHeld2
                  try simp only [List.getElem_toArray, List.getElem_cons_zero, List.getElem_cons_succ, Act.put, List.setIfInBounds_toArray, List.set_cons_zero, List.set_cons_succ]
                  refine wpAnyH_take (i := 24) (v := ?_) rfl (by kernel_rfl) (by kernel_rfl) (by kernel_rfl) (fun _ _ _ h => h) (Or.inl ⟨by rfl, ?_⟩) (by assumption) ?_
                  rotate_left
                  · intro w hSw; skip; go_simp; (try with_reducible rfl)
                  try simp only [List.getElem_toArray, List.getElem_cons_zero, List.getElem_cons_succ, Act.put, List.setIfInBounds_toArray, List.set_cons_zero, List.set_cons_succ]
                  refine wpAnyH_take (i := 25) (v := ?_) rfl (by kernel_rfl) (by kernel_rfl) (by kernel_rfl) (fun _ _ _ h => h) (Or.inl ⟨by rfl, ?_⟩) (by assumption) ?_
                  rotate_left
                  · intro w hSw; skip; go_simp; (try with_reducible rfl)
                  try simp only [List.getElem_toArray, List.getElem_cons_zero, List.getElem_cons_succ, Act.put, List.setIfInBounds_toArray, List.set_cons_zero, List.set_cons_succ]
                  clear hHeld hA_
                  refine wpAnyH_done (by kernel_rfl) ?_ _
                  have HBE := Lib.hid (HB4.out.trans (hU.mono HB4.out.size))
                  have HGE := Lib.hid (Nat.lt_of_lt_of_le HGX4.out hU.size)
                  have HCE := Lib.hid (HS.out _ hU).2
                  clear hU
                  go_wp2_with fail
                  go_roundw
                  case rel => exact ⟨HBE.out, HGE.out, HCE.out, i + 1, HLT.out, by go_num⟩
                  case measure => have := HLT.out; simp [intOf]; omega
                · have hoo2 : (y.org == x.org) = true := by simpa using hoo
                  have hol := h1
                  have hne2 : (y.near == x.near) = false := by simpa using hee
                  clear hoo h1 hee F6
                  have HBE := Lib.hid (fun n => HB4.out.trans ((below_drewN HR.out n).mono HB4.out.size))
                  have HGE := Lib.hid (Nat.lt_of_lt_of_le HGX4.out HR.out.size)
                  have HCE := Lib.hid (HS.out _ HR.out).2
                  go_wp2_with fail
                  go_quiet (fail)
                  go_wp2_with fail
                  go_roundw
                  case rel => exact ⟨HBE.out _, HGE.out, HCE.out.drewN _, i + 1, HLT.out, by go_num⟩
                  case measure => have := HLT.out; simp [intOf]; omega
              · have hoo2 : (y.org == x.org) = false := by simpa using hoo
                have hol := h1
                clear hoo h1 F6
                have HBE := Lib.hid (fun n => HB4.out.trans ((below_drewN HR.out n).mono HB4.out.size))
                have HGE := Lib.hid (Nat.lt_of_lt_of_le HGX4.out HR.out.size)
                have HCE := Lib.hid (HS.out _ HR.out).2
                go_wp2_with fail
                go_quiet (fail)
                go_wp2_with fail
                go_roundw
                case rel => exact ⟨HBE.out _, HGE.out, HCE.out.drewN _, i + 1, HLT.out, by go_num⟩
                case measure => have := HLT.out; simp [intOf]; omega
            · have hnn2 : ((ny : Int) == (nx : Int)) = false := by simpa using (show ¬ (ny : Int) = (nx : Int) by omega)
              clear hnn F5
              have HBE := Lib.hid (fun n => HB4.out.trans ((below_drewN HR.out n).mono HB4.out.size))
              have HGE := Lib.hid (Nat.lt_of_lt_of_le HGX4.out HR.out.size)
              have HCE := Lib.hid (HS.out _ HR.out).2
              go_wp2_with fail
              go_quiet (fail)
              go_wp2_with fail
              go_roundw
              case rel => exact ⟨HBE.out _, HGE.out, HCE.out.drewN _, i + 1, HLT.out, by go_num⟩
              case measure => have := HLT.out; simp [intOf]; omega
          · have hne : (py != px) = true := by simpa using hpp
            clear hpp F2
            have hD_ := Below.drew hE4
            refine wp_region_held_drew (S := fun w' => CvAt w' gy 0 y ∧ CvAt w' gx 0 x) (by kernel_rfl) (HS.out _ hD_) (fun hHeld => ?_)
            refine wpAnyH_take (i := 0) (v := y.agg) rfl (by kernel_rfl) (by kernel_rfl) (by kernel_rfl) (fun _ _ _ h => h) (Or.inl ⟨by rfl, ?_⟩) (by assumption) ?_
            · intro w hSw; exact load_exec _ rfl rfl hSw.1
            try simp only [List.getElem_toArray, List.getElem_cons_zero, List.getElem_cons_succ, Act.put, List.setIfInBounds_toArray, List.set_cons_zero, List.set_cons_succ]
            refine wpAnyH_take (i := 2) (v := x.agg) rfl (by kernel_rfl) (by kernel_rfl) (by kernel_rfl) (fun _ _ _ h => h) (Or.inl ⟨by rfl, ?_⟩) (by assumption) ?_
            · intro w hSw; exact load_exec _ rfl rfl hSw.2
            try simp only [List.getElem_toArray, List.getElem_cons_zero, List.getElem_cons_succ, Act.put, List.setIfInBounds_toArray, List.set_cons_zero, List.set_cons_succ]
            refine wpAnyH_ready (rs := [1]) (by kernel_rfl) (by simp) ?_
            refine AllReadyH.cons (o := _) rfl (fun K hK => ?_) AllReadyH.nil
            rw [if_pos (by rfl)]
            go_simp
            go_at_call 16
            refine (QPy.out _).mono ?_
            rintro e wa ⟨rfl, hg⟩
            have hA_ := below_two hD_ hg
            clear hg
            go_wp2_with fail
            refine hK.out _ _ (HS.out _ hA_) (fun hHeld2 => ?_)
            clear hK K hHeld
            have hHeld := hHeld2
            clear hHeld2
            try simp only [List.getElem_toArray, List.getElem_cons_zero, List.getElem_cons_succ, Act.put, List.setIfInBounds_toArray, List.set_cons_zero, List.set_cons_succ]
            refine wpAnyH_ready (rs := [3]) (by kernel_rfl) (by simp) ?_
            refine AllReadyH.cons (o := _) rfl (fun K hK => ?_) AllReadyH.nil
            rw [if_pos (by rfl)]
            go_simp
            go_at_call 16
            refine (QPx.out _).mono ?_
            rintro e wb ⟨rfl, hg⟩
            have hR := below_two hA_ hg
            clear hg
            go_wp2_with fail
            refine hK.out _ _ (HS.out _ hR) (fun hHeld2 => ?_)
            clear hK K hHeld
            have hHeld := hHeld2
            clear hHeld2
            try simp only [List.getElem_toArray, List.getElem_cons_zero, List.getElem_cons_succ, Act.put, List.setIfInBounds_toArray, List.set_cons_zero, List.set_cons_succ]
            refine wpAnyH_take (i := 4) (v := ?_) rfl (by kernel_rfl) (by kernel_rfl) (by kernel_rfl) (fun _ _ _ h => h) (Or.inl ⟨by rfl, ?_⟩) (by assumption) ?_
            rotate_left
            · intro w hSw; (try dsimp only at hSw); obtain ⟨hS1, hS2⟩ := hSw; go_simp; (try with_reducible rfl)
            try simp only [List.getElem_toArray, List.getElem_cons_zero, List.getElem_cons_succ, Act.put, List.setIfInBounds_toArray, List.set_cons_zero, List.set_cons_succ]
            clear hHeld hA_ hD_
            refine wpAnyH_done (by kernel_rfl) ?_ _
            go_wp2_with fail
            have hD_ := Below.drew hR
            refine wp_region_held_drew (S := fun w' => CvAt w' gy 0 y ∧ CvAt w' gx 0 x) (by kernel_rfl) (HS.out _ hD_) (fun hHeld => ?_)
            refine wpAnyH_take (i := 0) (v := y.agg) rfl (by kernel_rfl) (by kernel_rfl) (by kernel_rfl) (fun _ _ _ h => h) (Or.inl ⟨by rfl, ?_⟩) (by assumption) ?_
            · intro w hSw; exact load_exec _ rfl rfl hSw.1
            try simp only [List.getElem_toArray, List.getElem_cons_zero, List.getElem_cons_succ, Act.put, List.setIfInBounds_toArray, List.set_cons_zero, List.set_cons_succ]
            refine wpAnyH_take (i := 2) (v := x.agg) rfl (by kernel_rfl) (by kernel_rfl) (by kernel_rfl) (fun _ _ _ h => h) (Or.inl ⟨by rfl, ?_⟩) (by assumption) ?_
            · intro w hSw; exact load_exec _ rfl rfl hSw.2
            try simp only [List.getElem_toArray, List.getElem_cons_zero, List.getElem_cons_succ, Act.put, List.setIfInBounds_toArray, List.set_cons_zero, List.set_cons_succ]
            refine wpAnyH_ready (rs := [1]) (by kernel_rfl) (by simp) ?_
            refine AllReadyH.cons (o := _) rfl (fun K hK => ?_) AllReadyH.nil
            rw [if_pos (by rfl)]
            go_simp
            go_at_call 16
            refine (QPy.out _).mono ?_
            rintro e wa ⟨rfl, hg⟩
            have hA_ := below_two hD_ hg
            clear hg
            go_wp2_with fail
            refine hK.out _ _ (HS.out _ hA_) (fun hHeld2 => ?_)
            clear hK K hHeld
            have hHeld := hHeld2
            clear hHeld2
            try simp only [List.getElem_toArray, List.getElem_cons_zero, List.getElem_cons_succ, Act.put, List.setIfInBounds_toArray, List.set_cons_zero, List.set_cons_succ]
            refine wpAnyH_ready (rs := [3]) (by kernel_rfl) (by simp) ?_
            refine AllReadyH.cons (o := _) rfl (fun K hK => ?_) AllReadyH.nil
            rw [if_pos (by rfl)]
            go_simp
            go_at_call 16
            refine (QPx.out _).mono ?_
            rintro e wb ⟨rfl, hg⟩
            have hT := below_two hA_ hg
            clear hg
            go_wp2_with fail
            refine hK.out _ _ (HS.out _ hT) (fun hHeld2 => ?_)
            clear hK K hHeld
            have hHeld := hHeld2
            clear hHeld2
            try simp only [List.getElem_toArray, List.getElem_cons_zero, List.getElem_cons_succ, Act.put, List.setIfInBounds_toArray, List.set_cons_zero, List.set_cons_succ]
            refine wpAnyH_take (i := 4) (v := ?_) rfl (by kernel_rfl) (by kernel_rfl) (by kernel_rfl) (fun _ _ _ h => h) (Or.inl ⟨by rfl, ?_⟩) (by assumption) ?_
            rotate_left
            · intro w hSw; (try dsimp only at hSw); obtain ⟨hS1, hS2⟩ := hSw; go_simp; (try with_reducible rfl)
            try simp only [List.getElem_toArray, List.getElem_cons_zero, List.getElem_cons_succ, Act.put, List.setIfInBounds_toArray, List.set_cons_zero, List.set_cons_succ]
            clear hHeld hA_ hD_
            refine wpAnyH_done (by kernel_rfl) ?_ _
            have HBE := Lib.hid (HB4.out.trans (hT.mono HB4.out.size))
            have HGE := Lib.hid (Nat.lt_of_lt_of_le HGX4.out hT.size)
            have HCE := Lib.hid (HS.out _ hT).2
            clear hT hR hE4
            go_wp2_with fail
            go_roundw
            case rel => exact ⟨HBE.out, HGE.out, HCE.out, i + 1, HLT.out, by go_num⟩
            case measure => have := HLT.out; simp [intOf]; omega
        · obtain rfl : i = L.length := by omega
          clear hcx hgr
          have HBR := Lib.hid hbr
          clear hbr
          go_wp2_with fail
          refine (QA.out _).mono ?_
          rintro e w6 ⟨rfl, hb6⟩
          have HB6 := Lib.hid (HBR.out.trans (hb6.mono HBR.out.size))
          clear hb6
          go_wp2_with fail
          go_ret
          exact ⟨rfl, HB6.out⟩
end Go.Proofs.Ytpjhidicgclmbaa
