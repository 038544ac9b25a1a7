/-
  The document's store of versions: the calls that write, and how many are live.
-/
import Derived.Test.YtagfehfggkehmaaRefV10
namespace Go.Proofs.Ytagfehfggkehmaa
set_option linter.unusedVariables false
set_option linter.unusedSimpArgs false
open Go.RowKit

section
variable {w : World} {B sb : Nat} {v1 v2 : Value} {A P : List Int}
theorem getD_last {L : List Int} {n : Nat} (h : n = L.length) : nth L ((n : Int) - 1) = L.getD (n - 1) 0 := by
  unfold nth
  congr 1
  omega

set_option maxHeartbeats 1600000 in
theorem RefPin10 (s : RSt w B sb v1 v2 A P) (hp : 0 ≤ nth P ((A.length : Int) - 1) ∧ nth P ((A.length : Int) - 1) ≤ 1000000) :
    Calls Try.prog 12 #[.pointer (some ⟨sb, 0, none⟩)] w fun e w' => e = .returned (.int .i64 ((A.length : Int) - 1)) ∧ RSt w' B sb v1 v2 A (P.set (A.length - 1) (nth P ((A.length : Int) - 1) + 1)) ∧ Below B w w' := by
  have hpos := s.pos
  have hlen := s.len
  obtain ⟨a1, o1, c1, a2, o2, c2, rfl, rfl, hc1, hm1, hc2, hm2, h1, h2, l1, l2⟩ := s.form
  have d0 : w.cell? ⟨sb, 0, none⟩ = some (.slice (some ⟨a1, o1, none⟩) A.length c1) := s.blk.cell 0
  have d1 : w.cell? ⟨sb, 1, none⟩ = some (.slice (some ⟨a2, o2, none⟩) A.length c2) := s.blk.cell 1
  obtain ⟨e2, f2⟩ := h2 (A.length - 1) (by omega)
  have eP : nth P ((A.length : Int) - 1) = P.getD (A.length - 1) 0 := by
    unfold nth; congr 1; omega
  rw [eP] at hp ⊢
  obtain ⟨p, hpp⟩ : ∃ p, p = P.getD (A.length - 1) 0 := ⟨_, rfl⟩
  rw [← hpp] at e2 hp ⊢
  obtain ⟨hs, hb⟩ := s.setPin (k := A.length - 1) (by omega) (p + 1)
  have HS := Lib.hid (show RSt (w.setCell ⟨a2, o2 + (A.length - 1), none⟩ (.int .i64 (p + 1))).drew B sb _ _ A _ from ⟨hs.blk, hs.t1, hs.t2, hs.n1, hs.n2, hs.n12, hs.len, hs.pos, hs.base⟩)
  have HB := Lib.hid (show Below B w (w.setCell ⟨a2, o2 + (A.length - 1), none⟩ (.int .i64 (p + 1))).drew from ⟨hb.os, hb.tape, hb.output, hb.size, hb.block⟩)
  obtain ⟨n, hn⟩ : ∃ n, n = A.length := ⟨_, rfl⟩
  have hnm : (n : Int) ≤ 9223372036854775807 := by rw [hn]; unfold maxLen at hm1; omega
  have hn1 : (1 : Int) ≤ (n : Int) := by omega
  rw [← hn] at d0 d1 e2 f2 HS HB ⊢
  obtain ⟨m, rfl⟩ : ∃ m, n = m + 1 := ⟨n - 1, by omega⟩
  have em : ((m + 1 : Nat) : Int) - 1 = (m : Int) := by omega
  rw [Nat.add_sub_cancel] at e2 f2 HS HB
  rw [em, Nat.add_sub_cancel]
  have hm9 : (m : Int) < ((m + 1 : Nat) : Int) := by omega
  obtain ⟨hp1, hp2⟩ := hp
  obtain ⟨N, hN⟩ : ∃ N, N = m + 1 := ⟨_, rfl⟩
  have eN : IntKind.i64.wrap ((N : Int) - 1) = (m : Int) := by
    rw [show (N : Int) - 1 = (m : Int) by omega]; exact IntWalk.i64_in _ (by omega)
  have eN' : (N : Int) - 1 = (m : Int) := by omega
  rw [← hN] at d0 d1 hnm hn1 hm9 HS
  have HN := Lib.hid hN
  clear hs hb s h1 h2 eP hn hN hm1 hm2 hc1 hc2 hpos hlen em hpp
  go_enter Try.func12, Try.ntmps12
  go_wp2
  go_region
  go_wp2
  go_ret
  rw [← HN.out]
  exact ⟨rfl, HS.out, HB.out⟩

set_option maxHeartbeats 1600000 in
theorem RefRelNo10 (s : RSt w B sb v1 v2 A P) (k : Int) (hno : ¬ (0 ≤ k ∧ k < (A.length : Int)) ∨ nth P k = 0) :
    Calls Try.prog 14 #[.pointer (some ⟨sb, 0, none⟩), .int .i64 k] w fun e w' => e = .returned (.bool false) ∧ w = w' := by
  have HI := Lib.hid (RefIs10 s k)
  obtain ⟨a1, o1, c1, a2, o2, c2, rfl, rfl, hc1, hm1, hc2, hm2, h1, h2, l1, l2⟩ := s.form
  have d1 : w.cell? ⟨sb, 1, none⟩ = some (.slice (some ⟨a2, o2, none⟩) A.length c2) := s.blk.cell 1
  clear s
  by_cases hr : 0 ≤ k ∧ k < (A.length : Int)
  · obtain ⟨j, rfl⟩ := Int.eq_ofNat_of_zero_le hr.1
    have hj : j < A.length := by omega
    have hj' : (j : Int) < (A.length : Int) := by omega
    have e2 := (h2 j hj).1
    have hz : P.getD j 0 = 0 := by
      rcases hno with h | h
      · exact absurd hr h
      · rwa [nth_nat] at h
    rw [hz] at e2
    have HI' := Lib.hid (show Calls Try.prog 25 #[.pointer (some ⟨sb, 0, none⟩), .int .i64 (j : Int)] w fun e w' => e = .returned (.bool true) ∧ w = w' from by
      have := HI.out
      rwa [decide_eq_true hr] at this)
    clear h1 h2 HI hr hno hz
    go_enter Try.func14, Try.ntmps14
    go_wp2_with ((go_at_call 25; refine HI'.out.mono ?_; rintro e w1 ⟨rfl, rfl⟩))
    go_ret
    exact ⟨rfl, rfl⟩
  · have HI' := Lib.hid (show Calls Try.prog 25 #[.pointer (some ⟨sb, 0, none⟩), .int .i64 k] w fun e w' => e = .returned (.bool false) ∧ w = w' from by
      have := HI.out
      rwa [decide_eq_false hr] at this)
    clear h1 h2 HI hr hno
    go_enter Try.func14, Try.ntmps14
    go_wp2_with ((go_at_call 25; refine HI'.out.mono ?_; rintro e w1 ⟨rfl, rfl⟩))
    go_ret
    exact ⟨rfl, rfl⟩

set_option maxHeartbeats 1600000 in
theorem RefRel10 (s : RSt w B sb v1 v2 A P) (j : Nat) (hj : j < A.length) (hp : 0 < P.getD j 0 ∧ P.getD j 0 ≤ 1000000) :
    Calls Try.prog 14 #[.pointer (some ⟨sb, 0, none⟩), .int .i64 (j : Int)] w fun e w' => e = .returned (.bool true) ∧ RSt w' B sb v1 v2 A (P.set j (P.getD j 0 - 1)) ∧ Below B w w' := by
  have HI := Lib.hid (RefIs10 s (j : Int))
  obtain ⟨a1, o1, c1, a2, o2, c2, rfl, rfl, hc1, hm1, hc2, hm2, h1, h2, l1, l2⟩ := s.form
  have d1 : w.cell? ⟨sb, 1, none⟩ = some (.slice (some ⟨a2, o2, none⟩) A.length c2) := s.blk.cell 1
  have hj' : (j : Int) < (A.length : Int) := by omega
  obtain ⟨e2, f2⟩ := h2 j hj
  obtain ⟨p, hpp⟩ : ∃ p, p = P.getD j 0 := ⟨_, rfl⟩
  rw [← hpp] at e2 hp ⊢
  obtain ⟨hs, hb⟩ := s.setPin (k := j) hj (p - 1)
  have HS := Lib.hid (show RSt (w.setCell ⟨a2, o2 + j, none⟩ (.int .i64 (p - 1))).drew B sb _ _ A _ from ⟨hs.blk, hs.t1, hs.t2, hs.n1, hs.n2, hs.n12, hs.len, hs.pos, hs.base⟩)
  have HB := Lib.hid (show Below B w (w.setCell ⟨a2, o2 + j, none⟩ (.int .i64 (p - 1))).drew from ⟨hb.os, hb.tape, hb.output, hb.size, hb.block⟩)
  have HI' := Lib.hid (show Calls Try.prog 25 #[.pointer (some ⟨sb, 0, none⟩), .int .i64 (j : Int)] w fun e w' => e = .returned (.bool true) ∧ w = w' from by
    have := HI.out
    rwa [decide_eq_true (show 0 ≤ (j : Int) ∧ (j : Int) < (A.length : Int) from ⟨by omega, hj'⟩)] at this)
  obtain ⟨hp1, hp2⟩ := hp
  have hp0 : (p == 0) = false := by simpa using Int.ne_of_gt hp1
  clear hs hb s h1 h2 hpp HI
  go_enter Try.func14, Try.ntmps14
  go_wp2_with ((go_at_call 25; refine HI'.out.mono ?_; rintro e w1 ⟨rfl, rfl⟩))
  go_region
  go_wp2
  go_ret
  exact ⟨rfl, HS.out, HB.out⟩

/-- Up to the version k, how many are live. -/
def cl (A P : List Int) (k : Nat) : Nat := if k = A.length then RC A P else cz P k
theorem cl_step (hl : A.length = P.length) {k : Nat} (hk : k < A.length) : cl A P (k + 1) = cl A P k + if isL A P (k : Int) then 1 else 0 := by
  have h0 : ¬ k = A.length := by omega
  unfold cl
  rw [if_neg h0]
  by_cases h1 : k + 1 = A.length
  · have h4 : isL A P (k : Int) := ⟨by omega, by omega, .inr (by omega)⟩
    rw [if_pos h1, if_pos h4]
    unfold RC
    rw [← h1, Nat.add_sub_cancel]
  · rw [if_neg h1]
    simp only [cz]
    by_cases hz : P.getD k 0 = 0
    · have h4 : ¬ isL A P (k : Int) := by
        rintro ⟨_, _, h | h⟩
        · rw [nth_nat] at h; exact h hz
        · omega
      rw [if_neg h4, if_neg (fun h => h hz)]
    · have h4 : isL A P (k : Int) := ⟨by omega, by omega, .inl (by rw [nth_nat]; exact hz)⟩
      rw [if_pos h4, if_pos hz]
theorem cz_le : ∀ m, cz P m ≤ m
  | 0 => Nat.le_refl _
  | m + 1 => by have := cz_le m; simp only [cz]; split <;> omega
theorem cl_le {k : Nat} (hk : k ≤ A.length) (hp : 0 < A.length) : cl A P k ≤ A.length := by
  have h1 := cz_le (P := P) k
  have h2 := cz_le (P := P) (A.length - 1)
  unfold cl RC
  split <;> omega

set_option maxHeartbeats 1600000 in
theorem RefLive10 (s : RSt w B sb v1 v2 A P) :
    Calls Try.prog 19 #[.pointer (some ⟨sb, 0, none⟩)] w fun e w' => e = .returned (.int .i64 (RC A P : Int)) ∧ w = w' := by
  have HA := Lib.hid (fun k => RefAt10 s k)
  have hp := s.pos
  have HL := Lib.hid s.len
  obtain ⟨a1, o1, c1, a2, o2, c2, rfl, rfl, hc1, hm1, hc2, hm2, h1, h2, l1, l2⟩ := s.form
  have d0 : w.cell? ⟨sb, 0, none⟩ = some (.slice (some ⟨a1, o1, none⟩) A.length c1) := s.blk.cell 0
  have hn : (A.length : Int) ≤ 9223372036854775807 := by unfold maxLen at hm1; omega
  clear s h1 h2
  go_enter Try.func19, Try.ntmps19
  go_wp2_with fail
  go_loop [3, 4] (fun n i => ∃ k : Nat, k ≤ A.length ∧ i = .int .i64 (k : Int) ∧ n = .int .i64 (cl A P k : Int)) (fun _ i => A.length - (intOf i).toNat)
  case atStart => exact ⟨0, by omega, rfl, by unfold cl; rw [if_neg (by omega)]; rfl⟩
  case round =>
    obtain ⟨k, hk, rfl, rfl⟩ := hrel
    by_cases hlt : k < A.length
    · have h3 : (k : Int) < (A.length : Int) := by omega
      have hcl : (cl A P k : Int) ≤ 9223372036854775806 := by
        have h5 := cz_le (P := P) k
        have : cl A P k ≤ k := by unfold cl; rw [if_neg (by omega)]; exact h5
        omega
      have hst := cl_step HL.out hlt
      have HST := Lib.hid hst
      have HAK := Lib.hid (HA.out (k : Int))
      clear hst
      by_cases hi : isL A P (k : Int)
      · have hi2 : refAt A P (k : Int) = .tuple #[.int .i64 (nth A (k : Int)), .bool true] := by unfold refAt; rw [if_pos hi, decide_eq_true hi]
        have HI2 := Lib.hid hi2
        have HII := Lib.hid hi
        clear hi hi2
        go_wp2_with ((go_at_call 16; refine HAK.out.mono ?_; rintro e w1 ⟨rfl, rfl⟩; rw [HI2.out]))
        go_round
        case rel => exact ⟨k + 1, by omega, by go_num, by rw [HST.out, if_pos HII.out]; go_num⟩
        case measure => simp [intOf]; omega
      · have hi2 : refAt A P (k : Int) = .tuple #[.int .i64 0, .bool false] := by unfold refAt; rw [if_neg hi, decide_eq_false hi]
        have HI2 := Lib.hid hi2
        have HII := Lib.hid hi
        clear hi hi2
        go_wp2_with ((go_at_call 16; refine HAK.out.mono ?_; rintro e w1 ⟨rfl, rfl⟩; rw [HI2.out]))
        go_round
        case rel => exact ⟨k + 1, by omega, by go_num, by rw [HST.out, if_neg HII.out, Nat.add_zero]⟩
        case measure => simp [intOf]; omega
    · have HKE := Lib.hid (show k = A.length by omega)
      have h3 : decide (k < A.length) = false := by simpa using hlt
      have h4 : decide ((k : Int) < (A.length : Int)) = false := by simpa using hlt
      clear hk
      go_wp2
      go_ret
      exact ⟨by have e : cl A P k = RC A P := by rw [HKE.out]; unfold cl; rw [if_pos rfl]
                rw [← e]; rfl, rfl⟩

/-- The store's two slices, whatever they hold. -/
structure Two (w : World) (B sb : Nat) (v1 v2 : Value) (L1 L2 : List Value) : Prop where
  blk : Blk w sb 38 [v1, v2]
  t1 : TlG w B 3 v1 L1
  t2 : TlG w B 3 v2 L2
  n1 : v1.ownBlock ≠ some sb
  n2 : v2.ownBlock ≠ some sb
  n12 : ∀ q, v1.ownBlock = some q → v2.ownBlock ≠ some q
  base : B ≤ sb
theorem Two.app1 {W w' : World} {v : Value} {L1 L2 L : List Value} (s : Two W B sb v1 v2 L1 L2) (ht : TlG w' B 3 v L) (hg : W.grownBy w' v1.ownBlock) (ho : v.ownBlock = v1.ownBlock ∨ ∀ k, v.ownBlock = some k → W.heap.size ≤ k) :
    Two (w'.setCell ⟨sb, 0, none⟩ v) B sb v v2 L L2 ∧ w'.cell? ⟨sb, 0, none⟩ = some v1 ∧ w'.frozen? ⟨sb, 0, none⟩ = false ∧ Below B W (w'.setCell ⟨sb, 0, none⟩ v) := by
  have hb : Blk w' sb 38 [v1, v2] := (hg.block sb s.blk.lt (fun e => s.n1 e.symm)).trans s.blk
  have hv : v.ownBlock ≠ some sb := by
    rcases ho with h | h
    · rw [h]; exact s.n1
    · intro e; have := h sb e; have := s.blk.lt; omega
  have gs : w'.grownBy (w'.setCell ⟨sb, 0, none⟩ v) (some sb) := grown_setCell (grown_refl _ _) _ _
  have ht2 : TlG w' B 3 v2 L2 := s.t2.same hg.size (fun q hq => hg.block q (s.t2.lt hq).2 (fun e => s.n12 q e.symm hq))
  refine ⟨⟨hb.set 0 v, ht.same gs.size (fun q hq => gs.block q (ht.lt hq).2 (fun e => hv (by rw [hq]; exact e))), ht2.same gs.size (fun q hq => gs.block q (ht2.lt hq).2 (fun e => s.n2 (by rw [hq]; exact e))), hv, s.n2, fun q hq => ?_, s.base⟩, hb.cell 0, hb.free 0, ?_⟩
  · rcases ho with h | h
    · exact s.n12 q (h ▸ hq)
    · intro e; have := h q hq; have := (s.t2.lt e).2; omega
  · refine ((Below.refl B W).grown hg (Nat.le_of_lt (Nat.lt_of_le_of_lt s.base s.blk.lt)) (fun k hk => (s.t1.lt hk).1)).setCell (p := ⟨sb, 0, none⟩) s.base v
theorem Two.app2 {W w' : World} {v : Value} {L1 L2 L : List Value} (s : Two W B sb v1 v2 L1 L2) (ht : TlG w' B 3 v L) (hg : W.grownBy w' v2.ownBlock) (ho : v.ownBlock = v2.ownBlock ∨ ∀ k, v.ownBlock = some k → W.heap.size ≤ k) :
    Two (w'.setCell ⟨sb, 1, none⟩ v) B sb v1 v L1 L ∧ w'.cell? ⟨sb, 1, none⟩ = some v2 ∧ w'.frozen? ⟨sb, 1, none⟩ = false ∧ Below B W (w'.setCell ⟨sb, 1, none⟩ v) := by
  have hb : Blk w' sb 38 [v1, v2] := (hg.block sb s.blk.lt (fun e => s.n2 e.symm)).trans s.blk
  have hv : v.ownBlock ≠ some sb := by
    rcases ho with h | h
    · rw [h]; exact s.n2
    · intro e; have := h sb e; have := s.blk.lt; omega
  have gs : w'.grownBy (w'.setCell ⟨sb, 1, none⟩ v) (some sb) := grown_setCell (grown_refl _ _) _ _
  have ht1 : TlG w' B 3 v1 L1 := s.t1.same hg.size (fun q hq => hg.block q (s.t1.lt hq).2 (fun e => s.n12 q hq e.symm))
  refine ⟨⟨hb.set 1 v, ht1.same gs.size (fun q hq => gs.block q (ht1.lt hq).2 (fun e => s.n1 (by rw [hq]; exact e))), ht.same gs.size (fun q hq => gs.block q (ht.lt hq).2 (fun e => hv (by rw [hq]; exact e))), s.n1, hv, fun q hq => ?_, s.base⟩, hb.cell 1, hb.free 1, ?_⟩
  · rcases ho with h | h
    · rw [h]; exact s.n12 q hq
    · intro e; have := h q e; have := (s.t1.lt hq).2; omega
  · refine ((Below.refl B W).grown hg (Nat.le_of_lt (Nat.lt_of_le_of_lt s.base s.blk.lt)) (fun k hk => (s.t2.lt hk).1)).setCell (p := ⟨sb, 1, none⟩) s.base v
theorem Two.below {w' : World} {L1 L2 : List Value} (s : Two w B sb v1 v2 L1 L2) (hb : Below w.heap.size w w') : Two w' B sb v1 v2 L1 L2 := ⟨s.blk.below hb s.blk.lt, s.t1.below hb, s.t2.below hb, s.n1, s.n2, s.n12, s.base⟩

set_option maxHeartbeats 1600000 in
theorem RefCommit10 (s : RSt w B sb v1 v2 A P) (x : Int) (hn : A.length ≤ 1000000) :
    Calls Try.prog 10 #[.pointer (some ⟨sb, 0, none⟩), .int .i64 x] w fun e w' => e = .returned (.int .i64 (A.length : Int)) ∧ ∃ v3 v4, RSt w' B sb v3 v4 (A ++ [x]) (P ++ [0]) ∧ Below B w w' := by
  have d0 : w.cell? ⟨sb, 0, none⟩ = some v1 := s.blk.cell 0
  have hlt := s.blk.lt
  have hlen := s.len
  obtain ⟨A1, c1, rfl, _⟩ := s.t1.form
  have hB : B ≤ w.heap.size := Nat.le_of_lt (Nat.lt_of_le_of_lt s.base hlt)
  have hw := (Below.refl w.heap.size w).alloc (Nat.le_refl _) (.cells #[.int .i64 x] 3)
  have S0 := Lib.hid ((⟨s.blk, s.t1, s.t2, s.n1, s.n2, s.n12, s.base⟩ : Two w B sb _ v2 (vals A) (vals P)).below hw)
  have HS := Lib.hid s
  have HW := Lib.hid hw
  have HC := Lib.hid (show (w.alloc (.cells #[.int .i64 x] 3)).cell? ⟨w.heap.size, 0, none⟩ = some (.int .i64 x) from (Blk.new w 3 [.int .i64 x]).cell 0)
  have HN := Lib.hid (show (vals A).length ≤ 1000000000 by rw [vals_len]; omega)
  have HZ := Lib.hid (show B ≤ (w.alloc (.cells #[.int .i64 x] 3)).heap.size from Nat.le_trans hB (by simp))
  have HBW := Lib.hid hB
  have HL := Lib.hid hlen
  clear s hw hB hlen
  go_enter Try.func10, Try.ntmps10
  go_wp2_with ((at_builtin; refine wpList_append_tailG onesI rfl (.tmp 9) (.tmp 11) rfl B _ (vals A) rfl S0.out.t1 HZ.out ⟨w.heap.size, 0, none⟩ 1 (.int .i64 x) rfl HC.out rfl HN.out ?_))
  intro v3 w1 ht1 hg1 ho1
  rw [vals_snoc] at ht1
  obtain ⟨s1, c3, f3, b1⟩ := S0.out.app1 ht1 hg1 (by simpa using ho1)
  have c1' : (w1.setCell ⟨sb, 0, none⟩ v3).cell? ⟨sb, 1, none⟩ = some v2 := s1.blk.cell 1
  obtain ⟨A2, c2, rfl, _⟩ := s1.t2.form
  obtain ⟨A3, c5, rfl, _⟩ := s1.t1.form
  have hw2 := (Below.refl (w1.setCell ⟨sb, 0, none⟩ (.slice A3 (vals (A ++ [x])).length c5)).heap.size (w1.setCell ⟨sb, 0, none⟩ (.slice A3 (vals (A ++ [x])).length c5))).alloc (Nat.le_refl _) (.cells #[.int .i64 0] 3)
  have S1 := Lib.hid (s1.below hw2)
  have HB1 := Lib.hid ((HW.out.mono HBW.out).trans b1)
  have HC2 := Lib.hid (show ((w1.setCell ⟨sb, 0, none⟩ (.slice A3 (vals (A ++ [x])).length c5)).alloc (.cells #[.int .i64 0] 3)).cell? ⟨w1.heap.size, 0, none⟩ = some (.int .i64 0) from by
    have h := (Blk.new (w1.setCell ⟨sb, 0, none⟩ (.slice A3 (vals (A ++ [x])).length c5)) 3 [.int .i64 0]).cell 0
    have e : (w1.setCell ⟨sb, 0, none⟩ (.slice A3 (vals (A ++ [x])).length c5)).heap.size = w1.heap.size := by simp [World.setCell]
    rw [e] at h
    exact h)
  have HN2 := Lib.hid (show (vals P).length ≤ 1000000000 by rw [vals_len, ← HL.out]; omega)
  have HZ2 := Lib.hid (show B ≤ ((w1.setCell ⟨sb, 0, none⟩ (.slice A3 (vals (A ++ [x])).length c5)).alloc (.cells #[.int .i64 0] 3)).heap.size from Nat.le_trans s1.base (Nat.le_trans (Nat.le_of_lt s1.blk.lt) (by simp)))
  have HW2 := Lib.hid hw2
  clear ht1 hg1 ho1 s1 b1 hw2
  go_wp2_with ((at_builtin; refine wpList_append_tailG onesI rfl (.tmp 19) (.tmp 20) rfl B _ (vals P) rfl S1.out.t2 HZ2.out ⟨w1.heap.size, 0, none⟩ 1 (.int .i64 0) rfl HC2.out rfl HN2.out ?_))
  intro v4 w3 ht2 hg2 ho2
  rw [show vals P ++ [.int .i64 0] = vals (P ++ [0]) from vals_snoc P 0] at ht2
  obtain ⟨s2, c6, f6, b2⟩ := S1.out.app2 ht2 hg2 (by
    rcases ho2 with h | h
    · exact .inl h
    · exact .inr fun k hk => by have := h k hk; simpa [World.setCell] using this)
  have c7 : (w3.setCell ⟨sb, 1, none⟩ v4).cell? ⟨sb, 0, none⟩ = some (.slice A3 (vals (A ++ [x])).length c5) := s2.blk.cell 0
  have HS2 := Lib.hid s2
  have HB2 := Lib.hid (HB1.out.trans ((HW2.out.mono (Nat.le_trans HBW.out HB1.out.size)).trans b2))
  have en : (vals (A ++ [x])).length = A.length + 1 := by rw [vals_len]; simp
  clear ht2 hg2 ho2 s2 b2
  rw [en] at c7 ⊢
  have eq9 : IntKind.i64.wrap (((A.length + 1 : Nat) : Int) - 1) = (A.length : Int) := by
    rw [show ((A.length + 1 : Nat) : Int) - 1 = (A.length : Int) by omega]; exact IntWalk.i64_in _ (by omega)
  obtain ⟨A4, c8, rfl, _⟩ := HS2.out.t2.form
  clear en
  go_wp2
  go_ret
  exact ⟨rfl, _, _, ⟨HS2.out.blk, HS2.out.t1, HS2.out.t2, HS2.out.n1, HS2.out.n2, HS2.out.n12, by simp [HL.out], by simp, HS2.out.base⟩, HB2.out⟩
end
end Go.Proofs.Ytagfehfggkehmaa
