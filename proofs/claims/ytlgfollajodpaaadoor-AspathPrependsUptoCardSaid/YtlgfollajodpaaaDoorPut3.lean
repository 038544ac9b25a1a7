/-
  A path's bytes.
-/
import Derived.Test.YtlgfollajodpaaaDoorCnt
import Derived.Test.YtlgfollajodpaaaDoorOwnSeg
import Derived.Test.YtlgfollajodpaaaDoorPutA
import Derived.Test.YtlgfollajodpaaaDoorPutB
namespace Go.Proofs.YtlgfollajodpaaaDoor
set_option linter.unusedVariables false
set_option linter.unusedSimpArgs false
open Go.RowKit

section
variable {P : Program} {w : World} {ops : Array Oper} {rest : List Oper} {o : Oper} {a : Act} {Q : Exit → Act → World → Prop}
theorem cells_two {X Y : Int} (h0 : 0 ≤ X ∧ X < 256) (h1 : 0 ≤ Y ∧ Y < 256) : ([UInt8.ofNat X.toNat, UInt8.ofNat Y.toNat].map fun b : UInt8 => Value.int .u8 (b.toNat : Int)) = [.int .u8 X, .int .u8 Y] := by
  simp only [List.map_cons, List.map_nil, List.cons.injEq, Value.int.injEq, true_and, and_true]
  constructor
  · simp; omega
  · simp; omega
/-- 'out = append(out, c, d)': two bytes. -/
theorem wpList_append_two {t e : TypeId} (T : IsBytes P t e) (hgd : o.guard = none) (s x : Operand) (ho : o.op = .call { callee := .builtin .append, args := #[s, x], argTypes := #[t, t] })
    (w0 : World) (v : Value) (l : List UInt8) (hs : a.eval s = v) (wr : World) (X Y : Int) (hw : w = wr.alloc (.cells #[.int .u8 X, .int .u8 Y] e)) (hown : Own wr w0.heap.size e v l) (hx : a.eval x = .slice (some ⟨wr.heap.size, 0, none⟩) 2 2)
    (h0 : 0 ≤ X ∧ X < 256) (h1 : 0 ≤ Y ∧ Y < 256) (hsz : l.length + 2 ≤ 140737488355328) (hb : Below w0.heap.size w0 wr)
    (h : ∀ v' w', Own w' w0.heap.size e v' (l ++ [UInt8.ofNat X.toNat, UInt8.ofNat Y.toNat]) → wr.grownBy w' v.ownBlock → Below w0.heap.size w0 w' → wpList P ops Q rest (a.put o.dst v') w') : wpList P ops Q (o :: rest) a w := by
  subst hw
  have hb2 := bytes_lit wr e [UInt8.ofNat X.toNat, UInt8.ofNat Y.toNat]
  rw [cells_two h0 h1] at hb2
  exact wpList_append_bytes T hgd s x ho w0 v l hs (hown.alloc _) _ [UInt8.ofNat X.toNat, UInt8.ofNat Y.toNat] 2 2 hx rfl hb2 hsz (hb.alloc hb.size _) fun v' w' ho' hg hb' => h v' w' ho' (grown_of_alloc hg) hb'
end

theorem blk_kept {w w' : World} {g t : Nat} {cs : List Value} {v : Value} (h : Blk w g t cs) (hg : w.grownBy w' v.ownBlock) (hne : ∀ k, v.ownBlock = some k → k < g) : Blk w' g t cs :=
  (hg.block g h.lt (by intro e; first | exact Nat.lt_irrefl _ (hne g e) | exact Nat.lt_irrefl _ (hne g e.symm))).trans h
/-- A number's bytes. -/
def numB (wide : Bool) (x : Nat) : List UInt8 := if wide = true then be32 (x : Int) else if 65535 < x then be16 23456 else be16 (x : Int)
theorem numB_len (wide : Bool) (x : Nat) : (numB wide x).length ≤ 4 := by unfold numB; split <;> (try split) <;> simp [be32, be16]

theorem number3_any (x : Nat) (wide : Bool) (w : World) (hx : x < 4294967296) :
    Calls Tryd.prog 33 #[.int .u32 (x : Int), .bool wide] w (RetBytes w (numB wide x)) := by
  cases wide with
  | true =>
    have e : numB true x = be32 (x : Int) := by unfold numB; rw [if_pos rfl]
    have Q := Lib.hid (Put32_any none 0 0 [] rfl (x : Int) w (by simp) (Bytes.nil _ _) (by omega) (by omega))
    rw [List.nil_append, ← e] at Q
    clear e
    go_enter Tryd.func33, Tryd.ntmps33
    go_wp2_with fail
    refine Q.out.mono ?_
    rintro e w1 ⟨A1, c1, rfl, hr⟩
    go_wp2_with fail
    go_ret
    exact ⟨_, _, rfl, hr⟩
  | false =>
    by_cases hb : 65535 < x
    · have hbI : (65535 : Int) < (x : Int) := by omega
      have e : numB false x = be16 23456 := by unfold numB; rw [if_neg (by decide), if_pos hb]
      have Q := Lib.hid (Put16_any none 0 0 [] rfl 23456 w (by simp) (Bytes.nil _ _) (by omega) (by omega))
      rw [List.nil_append, ← e] at Q
      clear hb e
      go_enter Tryd.func33, Tryd.ntmps33
      go_wp2_with fail
      refine Q.out.mono ?_
      rintro e w1 ⟨A1, c1, rfl, hr⟩
      go_wp2_with fail
      go_ret
      exact ⟨_, _, rfl, hr⟩
    · have hbI : ¬ (65535 : Int) < (x : Int) := by omega
      have e : numB false x = be16 (x : Int) := by unfold numB; rw [if_neg (by decide), if_neg hb]
      have Q := Lib.hid (Put16_any none 0 0 [] rfl (x : Int) w (by simp) (Bytes.nil _ _) (by omega) (by omega))
      rw [List.nil_append, ← e] at Q
      clear hb e
      go_enter Tryd.func33, Tryd.ntmps33
      go_wp2_with fail
      refine Q.out.mono ?_
      rintro e w1 ⟨A1, c1, rfl, hr⟩
      go_wp2_with fail
      go_ret
      exact ⟨_, _, rfl, hr⟩

/-- The bytes of numbers, of a segment, of a path. -/
def numsB (wide : Bool) (z : List Nat) : List UInt8 := z.flatMap (numB wide)
def headB (s : Sg) : List UInt8 := [UInt8.ofNat (s.kind % 256).toNat, UInt8.ofNat ((s.nums.length : Int) % 256).toNat]
def putB (wide : Bool) (L : List Sg) : List UInt8 := L.flatMap fun s => headB s ++ numsB wide s.nums
theorem numsB_len (wide : Bool) (z : List Nat) : (numsB wide z).length ≤ 4 * z.length := by
  induction z with
  | nil => simp [numsB]
  | cons x z ih =>
    have := numB_len wide x
    simp only [numsB, List.flatMap_cons, List.length_append, List.length_cons] at ih ⊢
    omega
theorem putB_len (wide : Bool) (L : List Sg) : (putB wide L).length ≤ 2 * L.length + 4 * totN L := by
  induction L with
  | nil => simp [putB]
  | cons s L ih =>
    have := numsB_len wide s.nums
    simp only [putB, totN, headB, List.flatMap_cons, List.length_append, List.length_cons, List.length_nil, List.map_cons, List.sum_cons] at ih ⊢
    omega
theorem numsB_step {wide : Bool} {z : List Nat} {k : Nat} (h : k < z.length) : numsB wide (z.take (k + 1)) = numsB wide (z.take k) ++ numB wide (z.getD k 0) := by
  have e : z.getD k 0 = z[k] := by simp [List.getD, h]
  unfold numsB
  rw [List.take_succ_eq_append_getElem h, e, List.flatMap_append]
  simp only [List.flatMap_cons, List.flatMap_nil, List.append_nil]
theorem putB_step {wide : Bool} {L : List Sg} {j : Nat} {s : Sg} (h : L[j]? = some s) : putB wide (L.take (j + 1)) = putB wide (L.take j) ++ headB s ++ numsB wide s.nums := by
  have hj := (List.getElem?_eq_some_iff.1 h).1
  have e : L[j] = s := (List.getElem?_eq_some_iff.1 h).2
  rw [List.take_succ_eq_append_getElem hj, e]
  simp [putB]
def PutRelA (w : World) (wide : Bool) (L : List Sg) (v i : Value) (wr : World) : Prop :=
  Below w.heap.size w wr ∧ ∃ j : Nat, j ≤ L.length ∧ i = .int .i64 (j : Int) ∧ Own wr w.heap.size 5 v (putB wide (L.take j))
def PutRelB (w : World) (wide : Bool) (l : List UInt8) (z : List Nat) (v i : Value) (wr : World) : Prop :=
  Below w.heap.size w wr ∧ ∃ j : Nat, j ≤ z.length ∧ i = .int .i64 (j : Int) ∧ Own wr w.heap.size 5 v (l ++ numsB wide (z.take j))

set_option maxHeartbeats 3200000 in
theorem Put3_any (A : Option Addr) (c : Nat) (L : List Sg) (wide : Bool) (w : World) (h : Segs w w.heap.size A L) (hl : L.length ≤ 1000000000) (ht : totN L ≤ 1000000000) :
    Calls Tryd.prog 17 #[.slice A L.length c, .bool wide] w (RetBytes w (putB wide L)) := by
  have HS := Lib.hid h; clear h
  go_enter Tryd.func17, Tryd.ntmps17
  go_wp2_with fail
  go_loopw [5, 12] (fun v i wr => PutRelA w wide L v i wr) (fun _ i _ => L.length - (intOf i).toNat)
  case atStart => exact ⟨Below.refl _ _, 0, Nat.zero_le _, rfl, Own.nil _ _ _⟩
  case round =>
    obtain ⟨hbr, j, hj, rfl, hown⟩ := hrel
    by_cases hlt : j < L.length
    · obtain ⟨s, hs⟩ : ∃ s, L[j]? = some s := ⟨_, List.getElem?_eq_getElem hlt⟩
      obtain ⟨b, off, rfl, hb, k1, k2, hok⟩ := (HS.out.below hbr (Nat.le_refl _)).at hs
      have hlen : (putB wide (L.take j)).length ≤ 6000000000 := by
        have h1 := putB_len wide (L.take j)
        have h2 : totN (L.take j) ≤ totN L := sum_take_le (fun s => s.nums.length) L j
        have h3 : (L.take j).length ≤ j := by simp; omega
        omega
      have hsn := Nat.le_trans (nums_le hs) ht
      have HN := Lib.hid (numsB_len wide s.nums)
      have HLEN := Lib.hid hlen
      have HST := Lib.hid (putB_step (wide := wide) hs)
      have HOW := Lib.hid hown
      have HAT := Lib.hid (fun W (hB : Below w.heap.size w W) => (HS.out.at hs).choose_spec.choose_spec.2.2.2.2.2.2.1.below hB (Nat.le_refl _))
      have HFIT := Lib.hid hok.2.2.2.1
      have hbA := hbr.alloc hbr.size (.cells #[.int .i64 s.kind, .slice s.adr s.nums.length s.cap] 39)
      have c7 := cells2 (Blk.new wr 39 [.int .i64 s.kind, .slice s.adr s.nums.length s.cap])
      have HBA := Lib.hid hbA
      have HBR := Lib.hid hbr
      have HJ := Lib.hid hlt
      have HC7 := Lib.hid (Blk.new wr 39 [.int .i64 s.kind, .slice s.adr s.nums.length s.cap])
      clear hlen hok hown hbA hs hbr
      go_wp2_with (at_builtin; go_loud (refine wpList_append_two isBytes rfl (.tmp 16) (.tmp 24) rfl w _ _ rfl (wr.alloc (.cells #[.int .i64 s.kind, .slice s.adr s.nums.length s.cap] 39)) _ _ rfl (HOW.out.alloc _) (by simp [go_sem]) ?_ ?_ ?_ HBA.out ?_))
      · omega
      · omega
      · have := HLEN.out; omega
      · intro v1 w1 hown1 hg1 hb1
        have HO1 := Lib.hid (show Own w1 w.heap.size 5 v1 (putB wide (L.take j) ++ headB s) from hown1)
        have c8 := cells2 (blk_kept HC7.out hg1 (fun k hk => (World.ownsRow.lt HOW.out k hk).2))
        have HL2 := Lib.hid (show (putB wide (L.take j) ++ headB s).length ≤ 6000000002 by have := HLEN.out; simp [headB]; omega)
        have HB1 := Lib.hid hb1
        clear c7 hown1 hg1 hb1
        go_wp2_with fail
        go_loopw [5, 29] (fun v i wr => PutRelB w wide (putB wide (L.take j) ++ headB s) s.nums v i wr) (fun _ i _ => s.nums.length - (intOf i).toNat)
        case atStart => exact ⟨HB1.out, 0, Nat.zero_le _, rfl, by simpa [numsB] using HO1.out⟩
        case round =>
          obtain ⟨hbr, k, hk, rfl, hown⟩ := hrel
          by_cases hlt : k < s.nums.length
          · obtain ⟨b2, off2, hA2, hb2, k3⟩ := (HAT.out _ hbr).cell hlt
            have hx : s.nums.getD k 0 < 4294967296 := HFIT.out _ (by rw [show s.nums.getD k 0 = s.nums[k] by simp [List.getD, hlt]]; exact List.getElem_mem hlt)
            have HNS := Lib.hid (numsB_step (wide := wide) hlt)
            have HNL := Lib.hid (numsB_len wide (s.nums.take k))
            obtain ⟨x, hxe⟩ : ∃ x, x = s.nums.getD k 0 := ⟨_, rfl⟩
            rw [← hxe] at hx k3 HNS
            have Q := Lib.hid (number3_any x wide wr hx)
            have HOW2 := Lib.hid hown; have HBR2 := Lib.hid hbr; have HK := Lib.hid hlt
            clear hxe hown hbr
            rw [hA2]
            go_wp2_with fail
            refine Q.out.mono ?_
            rintro e w2 ⟨A3, c3, rfl, f1, f2, ho3, hb3⟩
            have HO3 := Lib.hid ho3; have HB3 := Lib.hid (HBR2.out.trans (hb3.mono HBR2.out.size))
            have HO4 := Lib.hid (HOW2.out.below hb3)
            clear ho3 hb3
            go_wp2_with (at_builtin; refine wpList_append_bytes isBytes rfl (.tmp 33) (.tmp 36) rfl w _ _ rfl HO4.out A3 (numB wide x) _ c3 rfl rfl HO3.out.bytes ?_ HB3.out ?_)
            · have h1 := HNL.out; have h2 := HL2.out; have h3 := numB_len wide x; have h4 : (s.nums.take k).length ≤ k := by simp; omega
              have h5 := HK.out
              rw [List.length_append]
              omega
            · intro v4 w4 hown4 hg4 hb4
              have HO5 := Lib.hid (show Own w4 w.heap.size 5 v4 (putB wide (L.take j) ++ headB s ++ numsB wide (s.nums.take (k + 1))) from by rw [HNS.out]; simpa only [List.append_assoc] using hown4)
              have HB5 := Lib.hid hb4
              clear hown4 hg4 hb4
              go_wp2_with fail
              go_roundw
              case rel => exact ⟨HB5.out, k + 1, HK.out, by go_num, HO5.out⟩
              case measure => have := HK.out; simp [intOf]; omega
          · obtain rfl : k = s.nums.length := by omega
            rw [List.take_length] at hown
            have HO2 := Lib.hid hown; have HB2 := Lib.hid hbr
            clear hown hbr
            go_wp2_with fail
            go_roundw
            case rel => exact ⟨HB2.out, j + 1, HJ.out, by go_num, by rw [HST.out]; exact HO2.out⟩
            case measure => have := HJ.out; simp [intOf]; omega
    · obtain rfl : j = L.length := by omega
      obtain ⟨A1, c1, rfl, f1, f2⟩ := hown.form
      rw [List.take_length] at hown f1
      go_wp2_with fail
      go_ret
      exact ⟨_, _, by rw [List.take_length]; rfl, f1, f2, hown, hbr⟩
end Go.Proofs.YtlgfollajodpaaaDoor
