/-
  P13.2: any values as words (written by gen13tk.py).
-/
import Derived.Test.YtpimnbalffaliaaDoorAwake13
import Derived.Test.YtpimnbalffaliaaDoorSame13
import Derived.Test.YtpimnbalffaliaaDoorInts7
import Derived.Test.YtpimnbalffaliaaDoorKinds13W
namespace Go.Proofs.YtpimnbalffaliaaDoor
set_option linter.unusedVariables false
set_option linter.unusedSimpArgs false
open Go.RowKit Go.Lib

theorem isAny : IsRow Tryd.prog 23 20 .nilIface 1 16 := ⟨Tryd.underlying23, by kernel_rfl, rfl, by decide, by decide⟩
theorem rows_apart {w : World} {B B' e e' k k' n n' : Nat} {v v' : Value} {xs xs' : List Value} (h : w.ownsRow B e k v n xs) (h' : w.ownsRow B' e' k' v' n' xs') (hne : e ≠ e') : v.ownBlock = none ∨ v.ownBlock ≠ v'.ownBlock := by
  rcases h.2 with ⟨rfl, _⟩ | ⟨g, cap, cur, rfl, _, hg, _⟩
  · exact .inl rfl
  · rcases h'.2 with ⟨rfl, _⟩ | ⟨g', cap', cur', rfl, _, hg', _⟩
    · exact .inr (by simp [Value.ownBlock])
    · refine .inr fun c => ?_
      have c' : g = g' := by simpa [Value.ownBlock] using c
      subst c'
      rw [hg] at hg'
      injection hg' with c2
      injection c2 with _ c3
      exact hne c3
/-- The values, and the words, of some kinds. -/
def valsK (ks : List Int) (s : List UInt8) (n : Int) : List Value := ks.map fun k => (dynOf k s n).val
def toksK (ks : List Int) (s : List UInt8) (n : Int) : List Tok := ks.map fun k => (dynOf k s n).tok
theorem take_kind (ks : List Int) (j : Nat) (h : j < ks.length) : ks.take (j + 1) = ks.take j ++ [ks.getD j 0] := by
  rw [List.take_succ_eq_append_getElem h]
  simp [h]
theorem vals_step (ks : List Int) (s : List UInt8) (n : Int) (j : Nat) (h : j < ks.length) : valsK (ks.take (j + 1)) s n = valsK (ks.take j) s n ++ [(dynOf (ks.getD j 0) s n).val] := by
  rw [take_kind ks j h]; simp [valsK]
theorem toks_step (ks : List Int) (s : List UInt8) (n : Int) (j : Nat) (h : j < ks.length) : toksK (ks.take (j + 1)) s n = toksK (ks.take j) s n ++ [(dynOf (ks.getD j 0) s n).tok] := by
  rw [take_kind ks j h]; simp [toksK]
theorem toks_len (ks : List Int) (s : List UInt8) (n : Int) (j : Nat) (h : j ≤ ks.length) : (toksK (ks.take j) s n).length = j := by
  unfold toksK; rw [List.length_map, List.length_take]; omega
theorem form_row {w : World} {B e k n : Nat} {v : Value} {xs : List Value} (h : w.ownsRow B e k v n xs) : ∃ A c, v = .slice A n c := by
  rcases h.2 with ⟨rfl, hn⟩ | ⟨g, cap, cur, rfl, _⟩
  · exact ⟨none, 0, by rw [hn]⟩
  · exact ⟨_, cap, rfl⟩

set_option maxHeartbeats 1600000 in
theorem tokens_long (A : Option Addr) (c : Nat) (ks : List Int) (s : List UInt8) (n : Int) (w : World) (hl : 100 < ks.length ∨ 500 < s.length) (hu : UTab w) (ht : Tab w) :
    Calls Tryd.prog 6 #[.slice A ks.length c, .string ⟨s.toArray⟩, .int .i64 n] w fun e w' => e = .returned (.bool true) ∧ Below w.heap.size w w' := by
  have Q := Lib.hid (awake13_any w hu ht)
  by_cases h1 : 100 < ks.length
  · have hl2 : (100 : Int) < (ks.length : Int) := by omega
    clear hl hu ht h1
    go_enter Tryd.func6, Tryd.ntmps6
    go_wp2_with fail
    refine Q.out.mono ?_
    rintro e w1 ⟨rfl, hb⟩
    go_wp2_with fail
    go_ret
    exact ⟨rfl, hb⟩
  · have hl1 : ¬ (100 : Int) < (ks.length : Int) := by omega
    have hl2 : (500 : Int) < (s.length : Int) := by omega
    clear hl hu ht h1
    go_enter Tryd.func6, Tryd.ntmps6
    go_wp2_with fail
    refine Q.out.mono ?_
    rintro e w1 ⟨rfl, hb⟩
    go_wp2_with fail
    go_ret
    exact ⟨rfl, hb⟩
set_option maxRecDepth 100000 in
set_option maxHeartbeats 12800000 in
theorem tokens_short (A : Option Addr) (c : Nat) (ks : List Int) (s : List UInt8) (n : Int) (w : World) (hk : ks.length ≤ 100) (hs : s.length ≤ 500) (hi : Ints w A ks) (hu : UTab w) (ht : Tab w) :
    Calls Tryd.prog 6 #[.slice A ks.length c, .string ⟨s.toArray⟩, .int .i64 n] w fun e w' => e = .returned (.bool true) ∧ Below w.heap.size w w' := by
  have hl1 : ¬ (100 : Int) < (ks.length : Int) := by omega
  have hl2 : ¬ (500 : Int) < (s.length : Int) := by omega
  have HI := Lib.hid hi
  have HU := Lib.hid (fun (w' : World) (hb : Below w.heap.size w w') => hu.below hb)
  have HT := Lib.hid (fun (w' : World) (hb : Below w.heap.size w w') => ht.below hb ht.lt)
  have QV := fun k w => Lib.hid (lawvalue_any k s n w)
  clear hi hu ht hs
  go_enter Tryd.func6, Tryd.ntmps6
  go_wp2_with fail
  go_loopw [7, 8, 9, 10] (fun L W i _ wr => Below w.heap.size w wr ∧ ∃ j : Nat, j ≤ ks.length ∧ i = .int .i64 (j : Int) ∧ wr.ownsRow w.heap.size 20 1 L j (valsK (ks.take j) s n) ∧ OwnT wr w.heap.size W (toksK (ks.take j) s n)) (fun _ _ i _ _ => ks.length - (intOf i).toNat)
  case atStart => exact ⟨Below.refl _ _, 0, by omega, rfl, World.ownsRow_nil _ _ _ _, OwnT.nil _ _⟩
  case round =>
    obtain ⟨hbw, j, hj, rfl, hL, hW⟩ := hrel
    obtain ⟨AL, cL, rfl⟩ := form_row hL
    obtain ⟨AW, cW, rfl, _, _⟩ := hW.form
    have htl := toks_len ks s n j hj
    rw [htl] at hW ⊢
    have HL := Lib.hid hL; have HW := Lib.hid hW; have HBW := Lib.hid hbw; have HTL := Lib.hid htl
    by_cases hlt : j < ks.length
    · have hjz : (j : Int) < (ks.length : Int) := by omega
      have HVS := Lib.hid (vals_step ks s n j hlt)
      have HTS := Lib.hid (toks_step ks s n j hlt)
      obtain ⟨b, off, rfl, hb, hc⟩ := HI.out.cell hlt
      have hcr := (hbw.cell (p := ⟨b, off + j, none⟩) hb).trans hc
      have HC := Lib.hid hc; have HBB := Lib.hid hb
      obtain ⟨K, hK⟩ : ∃ K, K = ks.getD j 0 := ⟨_, rfl⟩
      rw [← hK] at hcr HVS HTS HC
      have hgap := rows_apart hW hL (by decide)
      have HG := Lib.hid hgap
      have HSZ1 := Lib.hid (show (j + 1) * 16 ≤ 140737488355328 by omega)
      have HSZ2 := Lib.hid (show (j + 1) * 32 ≤ 140737488355328 by omega)
      clear hL hW hbw hc hK htl hgap
      by_cases h1 : K = 1
      · subst h1
        have q0 := (QV 1 wr).out
        clear QV
        have ed : dynOf 1 s n = .word s := rfl
        rw [ed] at q0 HVS HTS
        simp only [Dyn.val, Dyn.tok] at q0 HVS HTS
        have Q0 := Lib.hid q0
        have bd := build1 ⟨s.toArray⟩
        clear ed q0
        go_wp2_with fail
        refine Q0.out.mono ?_
        rintro e w1 ⟨rfl, rfl⟩
        clear Q0
        have bz := build0
        go_wp2_with (at_builtin; refine wpList_app_one isAny rfl (.tmp 26) (.tmp 34) rfl w _ j (valsK (ks.take j) s n) rfl wr [Value.iface 52 (.string ⟨s.toArray⟩)] rfl HL.out rfl rfl (by intro u hu; simp only [List.mem_cons, List.not_mem_nil, or_false] at hu; subst hu; rfl) HSZ1.out HBW.out ?_)
        intro v' w2 ho2 hg2 hb2
        rw [← HVS.out] at ho2
        obtain ⟨A2, c2, rfl⟩ := form_row ho2
        have HW2 := Lib.hid (show w2.ownsRow w.heap.size 44 3 (.slice AW j cW) j (flatT (toksK (ks.take j) s n)) by
          have h0 := HW.out
          unfold OwnT at h0
          rw [HTL.out] at h0
          exact World.ownsRow.kept h0 hg2 HG.out)
        have HL2 := Lib.hid ho2; have HB2 := Lib.hid hb2
        have cell0 : w2.cell? ⟨b, off + j, none⟩ = some (.int .i64 1) := (hb2.cell (p := ⟨b, off + j, none⟩) HBB.out).trans HC.out
        have cell1 : ∀ o, (w2.alloc o).cell? ⟨b, off + j, none⟩ = some (.int .i64 1) := fun o => ((hb2.alloc hb2.size o).cell (p := ⟨b, off + j, none⟩) HBB.out).trans HC.out
        clear ho2 hg2 hb2 hcr HG HBB HC
        go_wp2_with (at_builtin; refine wpList_app_one isTok rfl (.tmp 62) (.tmp 64) rfl w _ j (flatT (toksK (ks.take j) s n)) rfl (w2.alloc (.cells #[.int .i64 1, .string ⟨s.toArray⟩, .int .i64 0] 44)) [.int .i64 1, .string ⟨s.toArray⟩, .int .i64 0] rfl (HW2.out.alloc _) (by change Value.slice (some ⟨w2.heap.size + 1, 0, none⟩) 1 1 = _; simp) rfl (threeT_one ⟨1, s, 0⟩) HSZ2.out (HB2.out.alloc HB2.out.size _) ?_)
        intro v' w4 ho4 hg4 hb4
        have HG2 := Lib.hid (rows_apart HL2.out HW2.out (by decide))
        have own4 : OwnT w4 w.heap.size v' (toksK (ks.take j) s n ++ [⟨1, s, 0⟩]) := OwnT.push (t := ⟨1, s, 0⟩) (by rw [HTL.out]; exact ho4)
        obtain ⟨A4, c4, hv4, _, _⟩ := own4.form
        rw [hv4] at own4
        rw [hv4]
        have HW4 := Lib.hid own4; have HB4 := Lib.hid hb4
        have HL4 := Lib.hid (World.ownsRow.kept (HL2.out.alloc _) hg4 HG2.out)
        clear own4 ho4 hg4 hb4 hv4
        go_wp2_with fail
        go_roundw
        case rel => exact ⟨HB4.out, j + 1, by omega, rfl, HL4.out, by rw [HTS.out]; exact HW4.out⟩
        case measure => simp [intOf]; omega
      by_cases h2 : K = 2
      · subst h2
        have q0 := (QV 2 wr).out
        clear QV
        have ed : dynOf 2 s n = .num n := rfl
        rw [ed] at q0 HVS HTS
        simp only [Dyn.val, Dyn.tok] at q0 HVS HTS
        have Q0 := Lib.hid q0
        have bd := build2 n
        clear ed q0
        go_wp2_with fail
        refine Q0.out.mono ?_
        rintro e w1 ⟨rfl, rfl⟩
        clear Q0
        have bz := build0
        go_wp2_with (at_builtin; refine wpList_app_one isAny rfl (.tmp 26) (.tmp 34) rfl w _ j (valsK (ks.take j) s n) rfl wr [Value.iface 53 (.int .i64 n)] rfl HL.out rfl rfl (by intro u hu; simp only [List.mem_cons, List.not_mem_nil, or_false] at hu; subst hu; rfl) HSZ1.out HBW.out ?_)
        intro v' w2 ho2 hg2 hb2
        rw [← HVS.out] at ho2
        obtain ⟨A2, c2, rfl⟩ := form_row ho2
        have HW2 := Lib.hid (show w2.ownsRow w.heap.size 44 3 (.slice AW j cW) j (flatT (toksK (ks.take j) s n)) by
          have h0 := HW.out
          unfold OwnT at h0
          rw [HTL.out] at h0
          exact World.ownsRow.kept h0 hg2 HG.out)
        have HL2 := Lib.hid ho2; have HB2 := Lib.hid hb2
        have cell0 : w2.cell? ⟨b, off + j, none⟩ = some (.int .i64 2) := (hb2.cell (p := ⟨b, off + j, none⟩) HBB.out).trans HC.out
        have cell1 : ∀ o, (w2.alloc o).cell? ⟨b, off + j, none⟩ = some (.int .i64 2) := fun o => ((hb2.alloc hb2.size o).cell (p := ⟨b, off + j, none⟩) HBB.out).trans HC.out
        clear ho2 hg2 hb2 hcr HG HBB HC
        go_wp2_with (at_builtin; refine wpList_app_one isTok rfl (.tmp 62) (.tmp 64) rfl w _ j (flatT (toksK (ks.take j) s n)) rfl (w2.alloc (.cells #[.int .i64 2, .string ⟨#[]⟩, .int .i64 n] 44)) [.int .i64 2, .string ⟨#[]⟩, .int .i64 n] rfl (HW2.out.alloc _) (by change Value.slice (some ⟨w2.heap.size + 1, 0, none⟩) 1 1 = _; simp) rfl (threeT_one ⟨2, [], n⟩) HSZ2.out (HB2.out.alloc HB2.out.size _) ?_)
        intro v' w4 ho4 hg4 hb4
        have HG2 := Lib.hid (rows_apart HL2.out HW2.out (by decide))
        have own4 : OwnT w4 w.heap.size v' (toksK (ks.take j) s n ++ [⟨2, [], n⟩]) := OwnT.push (t := ⟨2, [], n⟩) (by rw [HTL.out]; exact ho4)
        obtain ⟨A4, c4, hv4, _, _⟩ := own4.form
        rw [hv4] at own4
        rw [hv4]
        have HW4 := Lib.hid own4; have HB4 := Lib.hid hb4
        have HL4 := Lib.hid (World.ownsRow.kept (HL2.out.alloc _) hg4 HG2.out)
        clear own4 ho4 hg4 hb4 hv4
        go_wp2_with fail
        go_roundw
        case rel => exact ⟨HB4.out, j + 1, by omega, rfl, HL4.out, by rw [HTS.out]; exact HW4.out⟩
        case measure => simp [intOf]; omega
      by_cases h3 : K = 3
      · subst h3
        have q0 := (QV 3 wr).out
        clear QV
        have ed : dynOf 3 s n = .quoted s := rfl
        rw [ed] at q0 HVS HTS
        simp only [Dyn.val, Dyn.tok] at q0 HVS HTS
        have Q0 := Lib.hid q0
        have bd := build3 ⟨s.toArray⟩
        clear ed q0
        go_wp2_with fail
        refine Q0.out.mono ?_
        rintro e w1 ⟨rfl, rfl⟩
        clear Q0
        have bz := build0
        go_wp2_with (at_builtin; refine wpList_app_one isAny rfl (.tmp 26) (.tmp 34) rfl w _ j (valsK (ks.take j) s n) rfl wr [Value.iface 54 (.string ⟨s.toArray⟩)] rfl HL.out rfl rfl (by intro u hu; simp only [List.mem_cons, List.not_mem_nil, or_false] at hu; subst hu; rfl) HSZ1.out HBW.out ?_)
        intro v' w2 ho2 hg2 hb2
        rw [← HVS.out] at ho2
        obtain ⟨A2, c2, rfl⟩ := form_row ho2
        have HW2 := Lib.hid (show w2.ownsRow w.heap.size 44 3 (.slice AW j cW) j (flatT (toksK (ks.take j) s n)) by
          have h0 := HW.out
          unfold OwnT at h0
          rw [HTL.out] at h0
          exact World.ownsRow.kept h0 hg2 HG.out)
        have HL2 := Lib.hid ho2; have HB2 := Lib.hid hb2
        have cell0 : w2.cell? ⟨b, off + j, none⟩ = some (.int .i64 3) := (hb2.cell (p := ⟨b, off + j, none⟩) HBB.out).trans HC.out
        have cell1 : ∀ o, (w2.alloc o).cell? ⟨b, off + j, none⟩ = some (.int .i64 3) := fun o => ((hb2.alloc hb2.size o).cell (p := ⟨b, off + j, none⟩) HBB.out).trans HC.out
        clear ho2 hg2 hb2 hcr HG HBB HC
        go_wp2_with (at_builtin; refine wpList_app_one isTok rfl (.tmp 62) (.tmp 64) rfl w _ j (flatT (toksK (ks.take j) s n)) rfl (w2.alloc (.cells #[.int .i64 3, .string ⟨s.toArray⟩, .int .i64 0] 44)) [.int .i64 3, .string ⟨s.toArray⟩, .int .i64 0] rfl (HW2.out.alloc _) (by change Value.slice (some ⟨w2.heap.size + 1, 0, none⟩) 1 1 = _; simp) rfl (threeT_one ⟨3, s, 0⟩) HSZ2.out (HB2.out.alloc HB2.out.size _) ?_)
        intro v' w4 ho4 hg4 hb4
        have HG2 := Lib.hid (rows_apart HL2.out HW2.out (by decide))
        have own4 : OwnT w4 w.heap.size v' (toksK (ks.take j) s n ++ [⟨3, s, 0⟩]) := OwnT.push (t := ⟨3, s, 0⟩) (by rw [HTL.out]; exact ho4)
        obtain ⟨A4, c4, hv4, _, _⟩ := own4.form
        rw [hv4] at own4
        rw [hv4]
        have HW4 := Lib.hid own4; have HB4 := Lib.hid hb4
        have HL4 := Lib.hid (World.ownsRow.kept (HL2.out.alloc _) hg4 HG2.out)
        clear own4 ho4 hg4 hb4 hv4
        go_wp2_with fail
        go_roundw
        case rel => exact ⟨HB4.out, j + 1, by omega, rfl, HL4.out, by rw [HTS.out]; exact HW4.out⟩
        case measure => simp [intOf]; omega
      by_cases h4 : K = 4
      · subst h4
        have q0 := (QV 4 wr).out
        clear QV
        have ed : dynOf 4 s n = .text s := rfl
        rw [ed] at q0 HVS HTS
        simp only [Dyn.val, Dyn.tok] at q0 HVS HTS
        have Q0 := Lib.hid q0
        clear ed q0
        go_wp2_with fail
        refine Q0.out.mono ?_
        rintro e w1 ⟨rfl, rfl⟩
        clear Q0
        have bz := build0
        go_wp2_with (at_builtin; refine wpList_app_one isAny rfl (.tmp 26) (.tmp 34) rfl w _ j (valsK (ks.take j) s n) rfl wr [Value.iface 9 (.string ⟨s.toArray⟩)] rfl HL.out rfl rfl (by intro u hu; simp only [List.mem_cons, List.not_mem_nil, or_false] at hu; subst hu; rfl) HSZ1.out HBW.out ?_)
        intro v' w2 ho2 hg2 hb2
        rw [← HVS.out] at ho2
        obtain ⟨A2, c2, rfl⟩ := form_row ho2
        have HW2 := Lib.hid (show w2.ownsRow w.heap.size 44 3 (.slice AW j cW) j (flatT (toksK (ks.take j) s n)) by
          have h0 := HW.out
          unfold OwnT at h0
          rw [HTL.out] at h0
          exact World.ownsRow.kept h0 hg2 HG.out)
        have HL2 := Lib.hid ho2; have HB2 := Lib.hid hb2
        have cell0 : w2.cell? ⟨b, off + j, none⟩ = some (.int .i64 4) := (hb2.cell (p := ⟨b, off + j, none⟩) HBB.out).trans HC.out
        have cell1 : ∀ o, (w2.alloc o).cell? ⟨b, off + j, none⟩ = some (.int .i64 4) := fun o => ((hb2.alloc hb2.size o).cell (p := ⟨b, off + j, none⟩) HBB.out).trans HC.out
        clear ho2 hg2 hb2 hcr HG HBB HC
        go_wp2_with (at_builtin; refine wpList_app_one isTok rfl (.tmp 62) (.tmp 64) rfl w _ j (flatT (toksK (ks.take j) s n)) rfl (w2.alloc (.cells #[.int .i64 0, .string ⟨#[]⟩, .int .i64 0] 44)) [.int .i64 0, .string ⟨#[]⟩, .int .i64 0] rfl (HW2.out.alloc _) (by change Value.slice (some ⟨w2.heap.size + 1, 0, none⟩) 1 1 = _; simp) rfl (threeT_one ⟨0, [], 0⟩) HSZ2.out (HB2.out.alloc HB2.out.size _) ?_)
        intro v' w4 ho4 hg4 hb4
        have HG2 := Lib.hid (rows_apart HL2.out HW2.out (by decide))
        have own4 : OwnT w4 w.heap.size v' (toksK (ks.take j) s n ++ [⟨0, [], 0⟩]) := OwnT.push (t := ⟨0, [], 0⟩) (by rw [HTL.out]; exact ho4)
        obtain ⟨A4, c4, hv4, _, _⟩ := own4.form
        rw [hv4] at own4
        rw [hv4]
        have HW4 := Lib.hid own4; have HB4 := Lib.hid hb4
        have HL4 := Lib.hid (World.ownsRow.kept (HL2.out.alloc _) hg4 HG2.out)
        clear own4 ho4 hg4 hb4 hv4
        go_wp2_with fail
        go_roundw
        case rel => exact ⟨HB4.out, j + 1, by omega, rfl, HL4.out, by rw [HTS.out]; exact HW4.out⟩
        case measure => simp [intOf]; omega
      by_cases h5 : K = 5
      · subst h5
        have q0 := (QV 5 wr).out
        clear QV
        have ed : dynOf 5 s n = .int n := rfl
        rw [ed] at q0 HVS HTS
        simp only [Dyn.val, Dyn.tok] at q0 HVS HTS
        have Q0 := Lib.hid q0
        clear ed q0
        go_wp2_with fail
        refine Q0.out.mono ?_
        rintro e w1 ⟨rfl, rfl⟩
        clear Q0
        have bz := build0
        go_wp2_with (at_builtin; refine wpList_app_one isAny rfl (.tmp 26) (.tmp 34) rfl w _ j (valsK (ks.take j) s n) rfl wr [Value.iface 3 (.int .i64 n)] rfl HL.out rfl rfl (by intro u hu; simp only [List.mem_cons, List.not_mem_nil, or_false] at hu; subst hu; rfl) HSZ1.out HBW.out ?_)
        intro v' w2 ho2 hg2 hb2
        rw [← HVS.out] at ho2
        obtain ⟨A2, c2, rfl⟩ := form_row ho2
        have HW2 := Lib.hid (show w2.ownsRow w.heap.size 44 3 (.slice AW j cW) j (flatT (toksK (ks.take j) s n)) by
          have h0 := HW.out
          unfold OwnT at h0
          rw [HTL.out] at h0
          exact World.ownsRow.kept h0 hg2 HG.out)
        have HL2 := Lib.hid ho2; have HB2 := Lib.hid hb2
        have cell0 : w2.cell? ⟨b, off + j, none⟩ = some (.int .i64 5) := (hb2.cell (p := ⟨b, off + j, none⟩) HBB.out).trans HC.out
        have cell1 : ∀ o, (w2.alloc o).cell? ⟨b, off + j, none⟩ = some (.int .i64 5) := fun o => ((hb2.alloc hb2.size o).cell (p := ⟨b, off + j, none⟩) HBB.out).trans HC.out
        clear ho2 hg2 hb2 hcr HG HBB HC
        go_wp2_with (at_builtin; refine wpList_app_one isTok rfl (.tmp 62) (.tmp 64) rfl w _ j (flatT (toksK (ks.take j) s n)) rfl (w2.alloc (.cells #[.int .i64 0, .string ⟨#[]⟩, .int .i64 0] 44)) [.int .i64 0, .string ⟨#[]⟩, .int .i64 0] rfl (HW2.out.alloc _) (by change Value.slice (some ⟨w2.heap.size + 1, 0, none⟩) 1 1 = _; simp) rfl (threeT_one ⟨0, [], 0⟩) HSZ2.out (HB2.out.alloc HB2.out.size _) ?_)
        intro v' w4 ho4 hg4 hb4
        have HG2 := Lib.hid (rows_apart HL2.out HW2.out (by decide))
        have own4 : OwnT w4 w.heap.size v' (toksK (ks.take j) s n ++ [⟨0, [], 0⟩]) := OwnT.push (t := ⟨0, [], 0⟩) (by rw [HTL.out]; exact ho4)
        obtain ⟨A4, c4, hv4, _, _⟩ := own4.form
        rw [hv4] at own4
        rw [hv4]
        have HW4 := Lib.hid own4; have HB4 := Lib.hid hb4
        have HL4 := Lib.hid (World.ownsRow.kept (HL2.out.alloc _) hg4 HG2.out)
        clear own4 ho4 hg4 hb4 hv4
        go_wp2_with fail
        go_roundw
        case rel => exact ⟨HB4.out, j + 1, by omega, rfl, HL4.out, by rw [HTS.out]; exact HW4.out⟩
        case measure => simp [intOf]; omega
      have q0 := (QV K wr).out
      clear QV
      have ed : dynOf K s n = .nil := by unfold dynOf; rw [if_neg h1, if_neg h2, if_neg h3, if_neg h4, if_neg h5]
      rw [ed] at q0 HVS HTS
      simp only [Dyn.val, Dyn.tok] at q0 HVS HTS
      have Q0 := Lib.hid q0
      have z1 : (K == 1) = false := by simp [h1]
      have z2 : (K == 2) = false := by simp [h2]
      have z3 : (K == 3) = false := by simp [h3]
      clear h1 h2 h3 h4 h5
      clear ed q0
      go_wp2_with fail
      refine Q0.out.mono ?_
      rintro e w1 ⟨rfl, rfl⟩
      clear Q0
      have bz := build0
      go_wp2_with (at_builtin; refine wpList_app_one isAny rfl (.tmp 26) (.tmp 34) rfl w _ j (valsK (ks.take j) s n) rfl wr [.nilIface] rfl HL.out rfl rfl (by intro u hu; simp only [List.mem_cons, List.not_mem_nil, or_false] at hu; subst hu; rfl) HSZ1.out HBW.out ?_)
      intro v' w2 ho2 hg2 hb2
      rw [← HVS.out] at ho2
      obtain ⟨A2, c2, rfl⟩ := form_row ho2
      have HW2 := Lib.hid (show w2.ownsRow w.heap.size 44 3 (.slice AW j cW) j (flatT (toksK (ks.take j) s n)) by
        have h0 := HW.out
        unfold OwnT at h0
        rw [HTL.out] at h0
        exact World.ownsRow.kept h0 hg2 HG.out)
      have HL2 := Lib.hid ho2; have HB2 := Lib.hid hb2
      have cell0 : w2.cell? ⟨b, off + j, none⟩ = some (.int .i64 K) := (hb2.cell (p := ⟨b, off + j, none⟩) HBB.out).trans HC.out
      have cell1 : ∀ o, (w2.alloc o).cell? ⟨b, off + j, none⟩ = some (.int .i64 K) := fun o => ((hb2.alloc hb2.size o).cell (p := ⟨b, off + j, none⟩) HBB.out).trans HC.out
      clear ho2 hg2 hb2 hcr HG HBB HC
      go_wp2_with (at_builtin; refine wpList_app_one isTok rfl (.tmp 62) (.tmp 64) rfl w _ j (flatT (toksK (ks.take j) s n)) rfl (w2.alloc (.cells #[.int .i64 0, .string ⟨#[]⟩, .int .i64 0] 44)) [.int .i64 0, .string ⟨#[]⟩, .int .i64 0] rfl (HW2.out.alloc _) (by change Value.slice (some ⟨w2.heap.size + 1, 0, none⟩) 1 1 = _; simp) rfl (threeT_one ⟨0, [], 0⟩) HSZ2.out (HB2.out.alloc HB2.out.size _) ?_)
      intro v' w4 ho4 hg4 hb4
      have HG2 := Lib.hid (rows_apart HL2.out HW2.out (by decide))
      have own4 : OwnT w4 w.heap.size v' (toksK (ks.take j) s n ++ [⟨0, [], 0⟩]) := OwnT.push (t := ⟨0, [], 0⟩) (by rw [HTL.out]; exact ho4)
      obtain ⟨A4, c4, hv4, _, _⟩ := own4.form
      rw [hv4] at own4
      rw [hv4]
      have HW4 := Lib.hid own4; have HB4 := Lib.hid hb4
      have HL4 := Lib.hid (World.ownsRow.kept (HL2.out.alloc _) hg4 HG2.out)
      clear own4 ho4 hg4 hb4 hv4
      go_wp2_with fail
      go_roundw
      case rel => exact ⟨HB4.out, j + 1, by omega, rfl, HL4.out, by rw [HTS.out]; exact HW4.out⟩
      case measure => simp [intOf]; omega
    · obtain rfl : j = ks.length := by omega
      have hjz : ¬ (ks.length : Int) < (ks.length : Int) := by omega
      have hlen : (ks.map fun k => dynOf k s n).length = ks.length := List.length_map _
      have hv := HL.out
      rw [List.take_length] at hv
      have ev : valsK ks s n = (ks.map fun k => dynOf k s n).map Dyn.val := by unfold valsK; rw [List.map_map]; rfl
      have et : (ks.map fun k => dynOf k s n).map Dyn.tok = toksK ks s n := by unfold toksK; rw [List.map_map]; rfl
      rw [ev] at hv
      have q := Tokens_any (.slice AL ks.length cL) (ks.map fun k => dynOf k s n) wr w.heap.size (TlG.ofOwn (by rw [List.length_map, List.length_map]; exact hv)) (by rw [hlen]; omega)
      rw [et, hlen] at q
      have Q3 := Lib.hid q
      have hw := HW.out
      rw [List.take_length] at hw
      have HWW := Lib.hid hw
      have hll : (toksK ks s n).length = ks.length := List.length_map _
      have HLL := Lib.hid hll
      generalize toksK ks s n = X at Q3 HWW HLL
      clear q hv hw hl1 hl2 hlen ev et hll hbw hL hW htl
      go_wp2_with fail
      refine Q3.out.mono ?_
      rintro e w3 ⟨A3, c3, rfl, ho3, hb3⟩
      have HO2 := Lib.hid (HWW.out.below hb3)
      have HB3 := Lib.hid (HBW.out.trans (hb3.mono HBW.out.size))
      have q := Same13_any A3 AW c3 cW X X w3 _ _ (by rw [HLL.out]; exact ho3) (by rw [HLL.out]; exact HO2.out) (by rw [HLL.out]; omega)
      rw [decide_eq_true (rfl : X = X), HLL.out] at q
      have Q4 := Lib.hid q
      clear q ho3 hb3 Q3
      go_wp2_with fail
      refine Q4.out.mono ?_
      rintro e w4 ⟨rfl, hb4⟩
      have HB4 := Lib.hid (HB3.out.trans (hb4.mono HB3.out.size))
      clear hb4 Q4
      have Q5 := Lib.hid (awake13_any w4 (HU.out _ HB4.out) (HT.out _ HB4.out))
      go_wp2_with fail
      refine Q5.out.mono ?_
      rintro e w5 ⟨rfl, hb5⟩
      go_wp2_with fail
      go_ret
      exact ⟨rfl, HB4.out.trans (hb5.mono HB4.out.size)⟩
theorem tokens_walk (A : Option Addr) (c : Nat) (ks : List Int) (s : List UInt8) (n : Int) (w : World) (hc1 : ks.length ≤ c) (hc2 : c ≤ maxLen) (hi : Ints w A ks) (hs : s.length ≤ maxLen) (hu : UTab w) (ht : Tab w) :
    Calls Tryd.prog 6 #[.slice A ks.length c, .string ⟨s.toArray⟩, .int .i64 n] w fun e w' => e = .returned (.bool true) ∧ Below w.heap.size w w' := by
  by_cases h : 100 < ks.length ∨ 500 < s.length
  · exact tokens_long A c ks s n w h hu ht
  · exact tokens_short A c ks s n w (by omega) (by omega) hi hu ht
end Go.Proofs.YtpimnbalffaliaaDoor
