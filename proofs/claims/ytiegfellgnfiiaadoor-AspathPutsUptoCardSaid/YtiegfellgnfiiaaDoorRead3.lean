/-
  The path of bytes.
-/
import Derived.Test.YtiegfellgnfiiaaDoorRefRd
import Derived.Test.YtiegfellgnfiiaaDoorParse3
import Derived.Test.YtiegfellgnfiiaaDoorByte
namespace Go.Proofs.YtiegfellgnfiiaaDoor
set_option linter.unusedVariables false
set_option linter.unusedSimpArgs false
open Go.RowKit

/-- How many bytes lie before a reader, off memory. -/
def leftAt (w : World) (g : Nat) : Nat := match w.cell? ⟨g, 0, none⟩ with
  | some (.slice _ n _) => n
  | _ => 0
theorem rd_left {w : World} {B g : Nat} {l : List UInt8} {s : Bool} (h : Rd w B g l s) : leftAt w g = l.length := by
  obtain ⟨_, A, c, hk, _⟩ := h
  have c0 : w.cell? ⟨g, 0, none⟩ = some (.slice A l.length c) := hk.cell 0
  unfold leftAt
  rw [c0]
/-- 'x.f = append(x.f, n)' over numbers, n in a block of its own. -/
theorem step_one32 {ops : Array Oper} {o : Oper} {a : Act} {w : World} {K : Act → World → Prop} {Q : Exit → Act → World → Prop} {E : Prop} (hgd : o.guard = none) (s x : Operand) (ho : o.op = .call { callee := .builtin .append, args := #[s, x], argTypes := #[30, 30] })
    (base : Nat) (v : Value) (z : List Nat) (hs : a.eval s = v) (wr : World) (n : Nat) (hw : w = wr.alloc (.cells #[.int .u32 (n : Int)] 23)) (hown : Own32 wr base v z) (hx : a.eval x = .slice (some ⟨wr.heap.size, 0, none⟩) 1 1)
    (hsz : z.length + 1 ≤ 100000000000) (hb : base ≤ wr.heap.size)
    (h : ∀ v' w', Own32 w' base v' (z ++ [n]) → wr.grownBy w' v.ownBlock → K (a.put o.dst v') w') : if Region.wanted o (yielded ops a.tmps) = true then Oper.wp Tryd.prog o a w K Q else E := by
  subst hw
  have hA : At32 (wr.alloc (.cells #[.int .u32 (n : Int)] 23)) (wr.heap.size + 1) (some ⟨wr.heap.size, 0, none⟩) [n] := by
    intro _
    refine ⟨wr.heap.size, 0, rfl, by omega, fun j hj => ?_⟩
    have hj0 : j = 0 := by simpa using hj
    subst hj0
    exact (Blk.new wr 23 [.int .u32 (n : Int)]).cell 0
  exact step_app32 hgd s x ho base v z hs (hown.alloc _) _ 1 1 _ [n] hx rfl hA (by simpa using hsz) (by simp; omega) fun v' w' h1 h2 => h v' w' h1 (grown_of_alloc h2)
/-- Segments of the call's own stay, if one other block, ahead of all of theirs, is written. -/
theorem OwnSegs.apart {w w' : World} {B H g : Nat} {v : Value} {M : List Sg} (h : OwnSegs w B H v M) (hg : w.grownBy w' (some g)) (hB : g < B) : OwnSegs w' B H v M := by
  have far : ∀ (u : Value) (e : TypeId) (size n : Nat) (xs : List Value), w.ownsRow B e size u n xs → u.ownBlock = none ∨ u.ownBlock ≠ some g := by
    intro u e size n xs hu
    cases he : u.ownBlock with
    | none => exact .inl rfl
    | some k =>
      right
      intro e2
      have := (World.ownsRow.lt hu k he).1
      have e3 : k = g := by simpa using e2
      omega
  exact ⟨World.ownsRow.kept h.row hg (far _ _ _ _ _ h.row), fun s hs => World.ownsRow.kept (h.own s hs) hg (far _ _ _ _ _ (h.own s hs)), h.low, h.last, h.fit⟩
theorem grown_of_drew {a b : World} {row : Option Nat} (h : a.drew.grownBy b row) : a.grownBy b row := ⟨h.os, h.tape, h.output, h.size, h.block⟩
theorem grown_fresh {a b c : World} {g : Nat} {row' : Option Nat} (h : a.grownBy b (some g)) (k : b.grownBy c row') (hr : ∀ j, row' = some j → a.heap.size ≤ j) : a.grownBy c (some g) :=
  ⟨k.os.trans h.os, k.tape.trans h.tape, k.output.trans h.output, Nat.le_trans h.size k.size, fun i hi hne => (k.block i (Nat.lt_of_lt_of_le hi h.size) (fun e => by have := hr i e.symm; omega)).trans (h.block i hi hne)⟩
def ReadPost (w : World) (r : Option (List (Int × List Nat))) (e : Ending) (w' : World) : Prop := match r with
  | none => e = .returned (.tuple #[.slice none 0 0, .int .i64 5]) ∧ Below w.heap.size w w'
  | some r => ∃ (M : List Sg) (A : Option Addr) (c : Nat), e = .returned (.tuple #[.slice A M.length c, .int .i64 0]) ∧ M.map Sg.abs = r ∧ M.length ≤ c ∧ c ≤ maxLen ∧ Segs w' w'.heap.size A M ∧ Below w.heap.size w w'
/-- What the loop over the segments holds. -/
def ReadRel (w : World) (wide : Bool) (l : List UInt8) (v : Value) (wr : World) : Prop :=
  Below w.heap.size w wr ∧ ∃ (M : List Sg) (H : Nat) (r : List UInt8) (s : Bool), OwnSegs wr (w.heap.size + 1) H v M ∧ w.heap.size + 1 ≤ H ∧ H ≤ wr.heap.size ∧ Rd wr w.heap.size w.heap.size r s ∧ M.length + r.length ≤ l.length ∧ totN M ≤ 255 * M.length ∧ Hid (readGo wide r.length (M.map Sg.abs, r, s) = readAll wide l)
/-- What the loop over a segment's numbers holds: W2 is the world ahead of the segment's block h. -/
def NumRel (W2 : World) (g h : Nat) (K : Int) (wide : Bool) (l1 : List UInt8) (s1 : Bool) (n : Nat) (i : Value) (wr : World) : Prop :=
  W2.grownBy wr (some g) ∧ ∃ (v : Value) (k : Nat), k ≤ n ∧ i = .int .i64 (k : Int) ∧ Blk wr h 53 [.int .i64 K, v] ∧ Own32 wr (h + 1) v (numsS wide l1 s1 k).1 ∧ Rd wr g g (numsS wide l1 s1 k).2.1 (numsS wide l1 s1 k).2.2
theorem nums_next (wide : Bool) (l : List UInt8) (s : Bool) (k : Nat) : (numsS wide l s (k + 1)).1 = (numsS wide l s k).1 ++ [num (rdTake (numsS wide l s k).2.1 (numsS wide l s k).2.2 (nextN wide)).1] ∧ (numsS wide l s (k + 1)).2 = (rdTake (numsS wide l s k).2.1 (numsS wide l s k).2.2 (nextN wide)).2 := ⟨rfl, rfl⟩

set_option maxHeartbeats 12800000 in
theorem Read3_any (A : Option Addr) (c : Nat) (l : List UInt8) (wide : Bool) (w : World) (h : Bytes w A l) (hc : l.length ≤ c) (hm : c ≤ maxLen) (hl : l.length ≤ 10000000) :
    Calls Tryd.prog 37 #[.slice A l.length c, .bool wide] w (ReadPost w (readL wide l)) := by
  have Q0 := Lib.hid (New_any A l.length c l rfl w h hc hm)
  clear h hc hm
  go_enter Tryd.func37, Tryd.ntmps37
  go_wp2_with fail
  refine Q0.out.mono ?_
  rintro e w1 ⟨rfl, hr0, hb0⟩
  have HR0 := Lib.hid hr0; have HB0 := Lib.hid hb0
  have HS0 := Lib.hid hr0.lt
  clear hr0 hb0 Q0
  go_wp2_with fail
  go_loopw [6] (fun v wr => ReadRel w wide l v wr) (fun _ wr => leftAt wr w.heap.size)
  case atStart => exact ⟨HB0.out, [], w.heap.size + 1, l, false, OwnSegs.nil _ _ _, Nat.le_refl _, HS0.out, HR0.out, by simp, by simp [totN], Lib.hid rfl⟩
  case round =>
    clear HR0 HB0 HS0
    obtain ⟨hbr, M, H, r, s, hown, hH, hH2, hrd, hlen, htot, hgo⟩ := hrel
    have QL := Lib.hid (Left_any _ _ _ _ wr hrd)
    by_cases hr : r = []
    · subst hr
      obtain ⟨A0, c0, rfl, g1, g2⟩ := hown.form
      have hM : M.length ≤ 10000000 := by simp at hlen; omega
      have QR := Lib.hid (Right_any A0 c0 M wr hown.segs g1 g2 (by omega))
      have HSG := Lib.hid hown.segs
      have hend := readL_end (t := (M.map Sg.abs, [], s)) hgo.out rfl
      simp only at hend
      rw [← right_abs] at hend
      have HEND := Lib.hid hend
      have QL0 := Lib.hid (show Calls Tryd.prog 62 #[.pointer (some ⟨w.heap.size, 0, none⟩)] wr fun e w' => e = .returned (.int .i64 0) ∧ wr = w' from Left_any _ _ _ _ wr hrd)
      have HBR := Lib.hid hbr
      have QE := Lib.hid (Err_any _ _ _ _ wr hrd)
      clear hend QL hgo hown hrd htot hlen hbr
      cases s with
      | true =>
        have HE := Lib.hid (show readL wide l = none by rw [HEND.out, if_neg]; simp)
        simp only [errN] at QE
        go_wp2_with fail
        refine QL0.out.mono ?_
        rintro e w2 ⟨rfl, rfl⟩
        go_wp2_with fail
        refine QE.out.mono ?_
        rintro e w2 ⟨rfl, rfl⟩
        go_wp2_with fail
        go_ret2
        rw [HE.out]
        exact ⟨rfl, HBR.out⟩
      | false =>
        simp only [errN] at QE
        cases hrb : rightB M with
        | true =>
          rw [hrb] at QR
          have HE := Lib.hid (show readL wide l = some (M.map Sg.abs) by rw [HEND.out, if_pos ⟨rfl, hrb⟩])
          clear hrb
          go_wp2_with fail
          refine QL0.out.mono ?_
          rintro e w2 ⟨rfl, rfl⟩
          go_wp2_with fail
          refine QE.out.mono ?_
          rintro e w2 ⟨rfl, rfl⟩
          go_wp2_with fail
          refine QR.out.mono ?_
          rintro e w3 ⟨rfl, hb3⟩
          go_wp2_with fail
          go_ret2
          rw [HE.out]
          exact ⟨M, A0, c0, rfl, rfl, g1, g2, (HSG.out.below hb3 (Nat.le_refl _)).lift hb3.size, HBR.out.trans (hb3.mono HBR.out.size)⟩
        | false =>
          rw [hrb] at QR
          have HE := Lib.hid (show readL wide l = none by rw [HEND.out, if_neg]; rw [hrb]; simp)
          clear hrb
          go_wp2_with fail
          refine QL0.out.mono ?_
          rintro e w2 ⟨rfl, rfl⟩
          go_wp2_with fail
          refine QE.out.mono ?_
          rintro e w2 ⟨rfl, rfl⟩
          go_wp2_with fail
          refine QR.out.mono ?_
          rintro e w3 ⟨rfl, hb3⟩
          go_wp2_with fail
          go_ret2
          rw [HE.out]
          exact ⟨rfl, HBR.out.trans (hb3.mono HBR.out.size)⟩
    · have hpos : (0 : Int) < (r.length : Int) := by have := List.length_pos_iff.2 hr; omega
      have hst := (readGo_step wide (t := (M.map Sg.abs, r, s)) hr).symm.trans hgo.out
      have hless := step_less wide (t := (M.map Sg.abs, r, s)) hr
      have Q1 := Lib.hid (Byte_any _ _ _ _ wr hrd)
      have hK := num_one_lt r s
      have hn2 := num_one_lt (rdTake r s 1).2.1 (rdTake r s 1).2.2
      simp only [readStep, headS] at hst hless
      obtain ⟨X1, hX1⟩ : ∃ X1, X1 = rdTake r s 1 := ⟨_, rfl⟩
      rw [← hX1] at hst hless Q1 hK hn2
      obtain ⟨X2, hX2⟩ : ∃ X2, X2 = rdTake X1.2.1 X1.2.2 1 := ⟨_, rfl⟩
      have HX2 := Lib.hid hX2
      rw [← hX2] at hst hless hn2
      obtain ⟨K, hKe⟩ : ∃ K, K = num X1.1 := ⟨_, rfl⟩
      obtain ⟨n, hne⟩ : ∃ n, n = num X2.1 := ⟨_, rfl⟩
      rw [← hKe, ← hne] at hst
      rw [← hne] at hless hn2
      rw [← hKe] at hK
      have HST := Lib.hid hst; have HLS := Lib.hid hless; have HK := Lib.hid hK; have HN := Lib.hid hn2
      have HKE := Lib.hid hKe; have HNE := Lib.hid hne
      have HOW := Lib.hid hown; have HBR := Lib.hid hbr; have HRD := Lib.hid hrd; have HLEN := Lib.hid hlen; have HTOT := Lib.hid htot
      clear hst hless hK hn2 hX1 hX2 hKe hne hown hbr hrd hlen htot hgo hr
      go_wp2_with fail
      refine QL.out.mono ?_
      rintro e w2 ⟨rfl, rfl⟩
      go_wp2_with fail
      refine Q1.out.mono ?_
      rintro e w2 ⟨rfl, hr1, hg1⟩
      have HR1 := Lib.hid hr1; have HG1 := Lib.hid hg1
      clear hr1 hg1
      rw [← HKE.out]
      go_wp2_with fail
      have hr3 : Rd (w2.alloc (.cells #[.int .i64 (K : Int), .slice none 0 0] 53)) w.heap.size w.heap.size X1.2.1 X1.2.2 := HR1.out.below ((Below.refl w2.heap.size w2).alloc (Nat.le_refl _) _) HR1.out.lt
      have Q2 := Byte_any _ _ _ _ _ hr3
      rw [← HX2.out] at Q2
      have Q2 := Lib.hid Q2
      have HB3 := Lib.hid (Blk.new w2 53 [.int .i64 (K : Int), .slice none 0 0])
      clear hr3
      refine Q2.out.mono ?_
      rintro e w4 ⟨rfl, hr4, hg4⟩
      have HR4 := Lib.hid hr4; have HG4 := Lib.hid hg4
      have hne4 : w2.heap.size ≠ w.heap.size := by have := HR1.out.lt; omega
      have HG24 := Lib.hid (grown_trans (grown_alloc (grown_refl w2 (some w.heap.size)) _) HG4.out)
      have HB4 := Lib.hid (HB3.out.grown HG4.out hne4)
      have HNE4 := Lib.hid hne4
      have HG0 := Lib.hid (show w.heap.size < w2.heap.size + 1 by have := HR1.out.lt; omega)
      clear hr4 hg4 hne4 Q2
      rw [← HNE.out]
      go_wp2_with fail
      go_loopw [19] (fun i wr' => NumRel w2 w.heap.size w2.heap.size (K : Int) wide X2.2.1 X2.2.2 n i wr') (fun i _ => n - (intOf i).toNat)
      case atStart => exact ⟨HG24.out, _, 0, Nat.zero_le _, rfl, HB4.out, Own32.nil _ _, HR4.out⟩
      case round =>
        clear HR4 HG4 HB4 HG24 Q1 QL
        obtain ⟨hg, v, k, hk, rfl, hblk, hown, hrd⟩ := hrel
        by_cases hlt : k < n
        · have hkn : (k : Int) < (n : Int) := by omega
          have QN := Lib.hid (next3_any _ _ _ _ wide wr.drew hrd)
          have HNX := Lib.hid (nums_next wide X2.2.1 X2.2.2 k)
          have hlen := (numsS_len wide X2.2.1 X2.2.2 k).1
          obtain ⟨Y, hY⟩ : ∃ Y, Y = rdTake (numsS wide X2.2.1 X2.2.2 k).2.1 (numsS wide X2.2.1 X2.2.2 k).2.2 (nextN wide) := ⟨_, rfl⟩
          rw [← hY] at QN HNX
          have hkb : (k : Int) < 256 := by have := HN.out; omega
          have hg2 := HG0.out
          have HBK := Lib.hid hblk
          have HOW2 := Lib.hid hown; have HGW := Lib.hid hg; have HLT := Lib.hid hlt
          have HSZ := Lib.hid (show (numsS wide X2.2.1 X2.2.2 k).1.length + 1 ≤ 100000000000 by rw [hlen]; have := HN.out; omega)
          have c1 : wr.cell? ⟨w2.heap.size, 1, none⟩ = some v := hblk.cell 1
          have hvb : some w2.heap.size ≠ v.ownBlock := by
            intro e
            have := (World.ownsRow.lt hown _ e.symm).1
            omega
          have HVB := Lib.hid hvb
          obtain ⟨z, hz⟩ : ∃ z, z = (numsS wide X2.2.1 X2.2.2 k).1 := ⟨_, rfl⟩
          rw [← hz] at HOW2 HSZ HNX
          obtain ⟨y, hy⟩ : ∃ y, y = num Y.1 := ⟨_, rfl⟩
          have HYE := Lib.hid hy
          rw [← hy] at HNX
          have QN2 := Lib.hid (show Calls Tryd.prog 64 #[.pointer (some ⟨w.heap.size, 0, none⟩), .bool wide] wr.drew (fun e w' => e = .returned (.int .u32 (y : Int)) ∧ Rd w' w.heap.size w.heap.size Y.2.1 Y.2.2 ∧ wr.drew.grownBy w' (some w.heap.size)) from by rw [HYE.out]; exact QN.out)
          clear hlen hY hblk hown hrd hg hlt hvb QN hz hy
          go_wp2_with fail
          go_region_law ((first
            | (have hq5 := HO5; clear hq5; refine step_one32 (by rfl) (.tmp 22) (.tmp 26) (by rfl) (w2.heap.size + 1) v z (by rfl) w5 y rfl HO5.out (by rfl) HSZ.out HZ5.out ?_; intro v6 w6 ho6 hg6; have hk6 := (hg6.block _ HK5.out.lt HVB.out).trans HK5.out; have c6 : w6.cell? ⟨w2.heap.size, 1, none⟩ = some v := Blk.cell hk6 1; have f6 : w6.frozen? ⟨w2.heap.size, 1, none⟩ = false := Blk.free hk6 1; have HK6 := Lib.hid hk6; obtain ⟨A6, d6, rfl, q1, q2⟩ := ho6.form; have el : (z ++ [y]).length = z.length + 1 := List.length_append; rw [el] at ho6 q1; have HO6 := Lib.hid ho6; have HG6 := Lib.hid hg6; clear hk6 ho6 hg6)
            | (go_simp; go_at_call 64; refine QN2.out.mono ?_; rintro e w5 ⟨rfl, hr5, hg5⟩; have hk5 := HBK.out.grown (grown_of_drew hg5) HNE4.out; have c5 : w5.cell? ⟨w2.heap.size, 1, none⟩ = some v := hk5.cell 1; have c5a : (w5.alloc (.cells #[.int .u32 (y : Int)] 23)).cell? ⟨w2.heap.size, 1, none⟩ = some v := (Blk.below hk5 ((Below.refl w5.heap.size w5).alloc (Nat.le_refl _) _) hk5.lt).cell 1; have HO5 := Lib.hid (own32_apart HOW2.out (grown_of_drew hg5) HG0.out); have HZ5 := Lib.hid (show w2.heap.size + 1 ≤ w5.heap.size from hk5.lt); have HK5 := Lib.hid hk5; have HR5 := Lib.hid hr5; have HG5 := Lib.hid (grown_of_drew hg5); clear hk5 hr5 hg5)))
          all_goals
            have hb7 := Lib.hid (((Below.refl w2.heap.size w5).grown HG6.out (Nat.le_of_succ_le HZ5.out) (fun j hj => by have := (World.ownsRow.lt HO5.out j hj).1; omega)).setCell (p := ⟨w2.heap.size, 1, none⟩) (Nat.le_refl _) (.slice A6 (z.length + 1) d6))
            have hg7 := Lib.hid (grown_fresh (grown_fresh (grown_trans HGW.out HG5.out) HG6.out (fun j hj => by have := (World.ownsRow.lt HO5.out j hj).1; omega)) (grown_setCell (grown_refl w6 (some w2.heap.size)) 1 (.slice A6 (z.length + 1) d6)) (fun j hj => by cases hj; exact Nat.le_refl _))
            have hr7 := Lib.hid (HR5.out.below hb7.out (by have := HG0.out; have := HNE4.out; omega))
            have hk7 := Lib.hid (Blk.set (show Blk w6 w2.heap.size 53 [.int .i64 (K : Int), v] from HK6.out) 1 (.slice A6 (z.length + 1) d6))
            have ho7 := Lib.hid (own32_apart HO6.out (grown_setCell (grown_refl w6 (some w2.heap.size)) 1 (.slice A6 (z.length + 1) d6)) (Nat.lt_succ_self _))
            clear c5 c5a c6 f6 c1
            go_wp2_with fail
            go_roundw
            case rel =>
              refine ⟨hg7.out, _, k + 1, HLT.out, by go_num, hk7.out, ?_, ?_⟩
              · rw [HNX.out.1]
                exact ho7.out
              · rw [HNX.out.2]
                exact hr7.out
            case measure => have := HLT.out; simp [intOf]; omega
        · obtain rfl : k = n := by omega
          have hnk : ¬ (k : Int) < (k : Int) := by omega
          have hfit := numsS_fit wide X2.2.1 X2.2.2 k
          have hlenz := (numsS_len wide X2.2.1 X2.2.2 k).1
          obtain ⟨A7, d7, rfl, e1, e2⟩ := hown.form
          have HS7 := Lib.hid (((HOW.out.apart HG1.out (Nat.lt_succ_self _)).apart hg (Nat.lt_succ_self _)))
          have HB7 := Lib.hid ((HOW.out.apart HG1.out (Nat.lt_succ_self _)).blocks)
          have HO7 := Lib.hid (show Own32 wr (w2.heap.size + 1) (Sg.sl ⟨(K : Int), A7, d7, (numsS wide X2.2.1 X2.2.2 k).1⟩) (numsS wide X2.2.1 X2.2.2 k).1 from hown)
          have c7 := cells2 hblk
          have HR7 := Lib.hid hrd; have HG7 := Lib.hid hg; have HL7 := Lib.hid hlenz; have HF7 := Lib.hid hfit
          have HZ7 := Lib.hid hblk.lt
          clear hblk hown hrd hg hlenz hfit e1 e2
          go_wp2_with (at_builtin; refine wpList_app_one' isSeg rfl (.tmp 30) (.tmp 32) rfl (w.heap.size + 1) _ _ _ rfl wr (Sg.two ⟨(K : Int), A7, d7, (numsS wide X2.2.1 X2.2.2 k).1⟩) rfl HS7.out.row rfl rfl (two_one _) ?sz (Nat.le_trans (Nat.succ_le_of_lt HR7.out.lt) (Nat.le_refl _)) ?_)
          case sz => have := HLEN.out; omega
          intro v8 w8 hown8 hg8
          have HP := Lib.hid (OwnSegs.push (s := ⟨(K : Int), A7, d7, (numsS wide X2.2.1 X2.2.2 k).1⟩) HS7.out HO7.out (by have := HG0.out; omega) (fun x hx j hj => Nat.lt_succ_of_lt (HB7.out x hx j hj)) ⟨HF7.out, by have := HK.out; show -9223372036854775808 ≤ (K : Int) ∧ (K : Int) ≤ 9223372036854775807; omega⟩ hown8 hg8)
          have hsz : w.heap.size + 1 ≤ wr.heap.size := HR7.out.lt
          have hb8 := (Below.refl (w.heap.size + 1) wr).grown hg8 hsz (fun j hj => (World.ownsRow.lt HS7.out.row j hj).1)
          have HR8 := Lib.hid (HR7.out.below hb8 (Nat.lt_succ_self _))
          have HB9 := Lib.hid ((((HBR.out.grown HG1.out HBR.out.size (fun j hj => by cases hj; exact Nat.le_refl _)).grown HG7.out (Nat.le_trans (Nat.le_of_lt HRD.out.lt) HG1.out.size) (fun j hj => by cases hj; exact Nat.le_refl _))).trans (hb8.mono (Nat.le_succ _)))
          have HZ8 := Lib.hid (show w2.heap.size + 1 ≤ w8.heap.size from Nat.le_trans HZ7.out hg8.size)
          clear hb8 hsz c7 hown8 hg8
          go_wp2_with fail
          go_roundw
          case rel =>
            refine ⟨HB9.out, _, w2.heap.size + 1, _, _, HP.out, (by have := HG0.out; omega), HZ8.out, HR8.out, ?_, ?_, Lib.hid ?_⟩
            · have h1 := HLEN.out
              have h2 := HLS.out
              rw [List.length_append]
              simp only [List.length_cons, List.length_nil]
              omega
            · rw [totN_snoc, List.length_append]
              have h1 := HTOT.out
              have h2 := HN.out
              have h3 := HL7.out
              show totN M + (numsS wide X2.2.1 X2.2.2 k).1.length ≤ _
              simp only [List.length_cons, List.length_nil]
              omega
            · rw [List.map_append]
              exact HST.out
          case measure =>
            rw [rd_left HR8.out, rd_left HRD.out]
            exact HLS.out
end Go.Proofs.YtiegfellgnfiiaaDoor
