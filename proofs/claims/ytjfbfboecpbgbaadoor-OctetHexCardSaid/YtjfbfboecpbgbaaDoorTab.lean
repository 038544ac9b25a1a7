/-
  The table of digits; what a sign counts; bytes and numbers in digits, as octet writes them.
-/
import Derived.Test.YtjfbfboecpbgbaaDoorRefRB
import Derived.Test.YtjfbfboecpbgbaaDoorDec
namespace Go.Proofs.YtjfbfboecpbgbaaDoor
open Go.RowKit

def tabCells : Array Value := #[.int .u8 48, .int .u8 49, .int .u8 50, .int .u8 51, .int .u8 52, .int .u8 53, .int .u8 54, .int .u8 55, .int .u8 56, .int .u8 57, .int .u8 97, .int .u8 98, .int .u8 99, .int .u8 100, .int .u8 101, .int .u8 102]
/-- The table lies in its block. -/
def Tab (w : World) : Prop := ∃ t fr, w.heap[0]? = some (.cells tabCells t fr)
theorem Tab.lt {w : World} (h : Tab w) : 0 < w.heap.size := by obtain ⟨_, _, h⟩ := h; exact (Array.getElem?_eq_some_iff.1 h).1
theorem Tab.below {w w' : World} {B : Nat} (h : Tab w) (hb : Below B w w') (hB : 0 < B) : Tab w' := by
  obtain ⟨t, fr, h⟩ := h
  exact ⟨t, fr, (hb.block _ hB).trans h⟩
theorem Tab.grown {w w' : World} {g : Nat} (h : Tab w) (hb : w.grownBy w' (some g)) (hg : 0 ≠ g) : Tab w' := by
  have hl := h.lt
  obtain ⟨t, fr, h⟩ := h
  exact ⟨t, fr, (hb.block _ hl (by simpa using hg)).trans h⟩
theorem tab_at : ∀ i, i < 16 → tabCells[i]? = some (.int .u8 ((dg i).toNat : Int)) := by
  intro i hi
  rcases (show i = 0 ∨ i = 1 ∨ i = 2 ∨ i = 3 ∨ i = 4 ∨ i = 5 ∨ i = 6 ∨ i = 7 ∨ i = 8 ∨ i = 9 ∨ i = 10 ∨ i = 11 ∨ i = 12 ∨ i = 13 ∨ i = 14 ∨ i = 15 by omega) with rfl | rfl | rfl | rfl | rfl | rfl | rfl | rfl | rfl | rfl | rfl | rfl | rfl | rfl | rfl | rfl <;> rfl
theorem Tab.cell {w : World} (h : Tab w) {i : Nat} (hi : i < 16) : w.cell? ⟨0, i, none⟩ = some (.int .u8 ((dg i).toNat : Int)) := by
  obtain ⟨t, fr, h⟩ := h
  rw [cell_of_row w _ i _ t fr h]
  exact tab_at i hi

theorem tab_index (k : Nat) (hk : k < 16) (w : World) : (Instr.index 60 (.agg tabCells) (.int .i64 (k : Int))).run Tryd.prog w = .ok (.int .u8 ((dg k).toNat : Int)) w := by
  rcases (show k = 0 ∨ k = 1 ∨ k = 2 ∨ k = 3 ∨ k = 4 ∨ k = 5 ∨ k = 6 ∨ k = 7 ∨ k = 8 ∨ k = 9 ∨ k = 10 ∨ k = 11 ∨ k = 12 ∨ k = 13 ∨ k = 14 ∨ k = 15 by omega) with rfl | rfl | rfl | rfl | rfl | rfl | rfl | rfl | rfl | rfl | rfl | rfl | rfl | rfl | rfl | rfl <;> kernel_rfl

theorem digFrom_at (k : Nat) (hk : k < 16) (c : UInt8) : digFrom (hexd.drop k) k c = if dg k == c then (k : Int) else digFrom (hexd.drop (k + 1)) (k + 1) c := by
  rcases (show k = 0 ∨ k = 1 ∨ k = 2 ∨ k = 3 ∨ k = 4 ∨ k = 5 ∨ k = 6 ∨ k = 7 ∨ k = 8 ∨ k = 9 ∨ k = 10 ∨ k = 11 ∨ k = 12 ∨ k = 13 ∨ k = 14 ∨ k = 15 by omega) with rfl | rfl | rfl | rfl | rfl | rfl | rfl | rfl | rfl | rfl | rfl | rfl | rfl | rfl | rfl | rfl <;> rfl

set_option maxHeartbeats 1600000 in
theorem digit_any (c : UInt8) (w : World) (h : Tab w) :
    Calls Tryd.prog 40 #[.int .u8 (c.toNat : Int)] w fun e w' => e = .returned (.int .i64 (digitOf c)) ∧ w = w' := by
  obtain ⟨tt, fr, hrow⟩ := h
  have HR := Lib.hid hrow; clear hrow
  go_enter Tryd.func40, Tryd.ntmps40
  go_wp2_with (refine wpList_load_row rfl 60 _ rfl 0 rfl tt _ fr _ HR.out Tryd.underlying60 rfl (by kernel_rfl) ?_)
  go_loop [3, 4, 6] (fun _ _ i => ∃ k : Nat, k ≤ 16 ∧ i = .int .i64 (k : Int) ∧ digitOf c = digFrom (hexd.drop k) k c) (fun _ _ i => 16 - (intOf i).toNat)
  case atStart => exact ⟨0, by omega, rfl, rfl⟩
  case round =>
    obtain ⟨k, hk, rfl, hd⟩ := hrel
    have HD := Lib.hid hd; clear hd
    by_cases hlt : k < 16
    · have hix := tab_index k hlt w
      have H0 := Lib.hid (digFrom_at k hlt c)
      by_cases hc : dg k = c
      · have hb : (((dg k).toNat : Int) == (c.toNat : Int)) = true := by rw [hc]; simp
        have HC := Lib.hid hc; clear hc
        go_wp2
        go_ret
        exact ⟨by rw [HD.out, H0.out, if_pos (by simpa using HC.out)]; rfl, rfl⟩
      · have hb : (((dg k).toNat : Int) == (c.toNat : Int)) = false := by
          simp only [beq_eq_false_iff_ne, ne_eq]
          intro e
          exact hc (UInt8.toNat_inj.1 (by omega))
        have HC := Lib.hid hc; clear hc
        go_wp2
        go_round
        case rel => exact ⟨k + 1, by omega, by go_num, by rw [HD.out, H0.out, if_neg (by simpa using HC.out)]⟩
        case measure => simp [intOf]; omega
    · obtain rfl : k = 16 := by omega
      go_wp2
      go_ret
      exact ⟨by rw [HD.out]; rfl, rfl⟩

/-! ### Hex -/

theorem len_hex {l : List UInt8} {k : Nat} (hl : l.length ≤ 1000000) : (hexL (l.take k)).length + [dg 0, dg 0].length ≤ 140737488355328 := by
  rw [hexL_len]
  simp only [List.length_take, List.length_cons, List.length_nil]
  omega

theorem own_hex {w' : World} {B e : Nat} {v : Value} {l : List UInt8} {k x : Nat} (h : k < l.length) (hx : x = (l.getD k 0).toNat) (ho : Own w' B e v (hexL (l.take k) ++ [dg (x / 16), dg (x % 16)])) : Own w' B e v (hexL (l.take (k + 1))) := by
  subst hx
  rw [take_snoc l k h, hexL_snoc]
  exact ho

def HexLoop (w : World) (l : List UInt8) (v i : Value) (wr : World) : Prop :=
  Below w.heap.size w wr ∧ ∃ k : Nat, k ≤ l.length ∧ i = .int .i64 (k : Int) ∧ Own wr w.heap.size 5 v (hexL (l.take k))

theorem nibble_and (x : Nat) (h : x < 256) : bits .and .u8 (x : Int) 15 = ((x % 16 : Nat) : Int) := by
  have := u8_and_nat x 15 h (by decide)
  rw [nat_mask4] at this
  exact this

set_option maxHeartbeats 1600000 in
theorem Hex_any (A : Option Addr) (n c : Nat) (l : List UInt8) (hn : n = l.length) (w : World) (hl : l.length ≤ 1000000) (h : Bytes w A l) (ht : Tab w) :
    Calls Tryd.prog 27 #[.slice A n c] w fun e w' => e = .returned (.string ⟨(hexL l).toArray⟩) ∧ Below w.heap.size w w' := by
  subst hn
  have HT := Lib.hid ht; have HB := Lib.hid h
  clear ht h
  go_enter Tryd.func27, Tryd.ntmps27
  go_wp2_with (at_make; refine wpList_make_bytes isBytes rfl _ _ rfl w 0 (2 * l.length : Nat) 0 (2 * l.length) rfl (by first | rfl | simp) rfl (by first | rfl | simp) (by omega) (by omega) (Below.refl _ _) ?_; intro w1 hown1 _ hb1; have H1 := Lib.hid hown1; clear hown1)
  go_loopw [3, 12] (fun v i wr => HexLoop w l v i wr) (fun _ i _ => l.length - (intOf i).toNat)
  case atStart => exact ⟨hb1, 0, by omega, rfl, by simpa [hexL] using H1.out⟩
  case round =>
    clear hb1 H1
    obtain ⟨hbr, k, hk, rfl, hown⟩ := hrel
    have HO := Lib.hid hown; clear hown
    by_cases hlt : k < l.length
    · obtain ⟨b, off, rfl, hbb, hc0⟩ := (At.below HB.out hbr (Nat.le_refl _)).cell hlt
      obtain ⟨x, hx⟩ : ∃ x, x = (l.getD k 0).toNat := ⟨_, rfl⟩
      have hx1 : x < 256 := by rw [hx]; exact (l.getD k 0).toNat_lt
      have hc : wr.cell? ⟨b, off + k, none⟩ = some (.int .u8 (x : Int)) := by rw [hx]; exact hc0
      have HX := Lib.hid hx
      clear hc0 hx
      have ht := HT.out.below hbr HT.out.lt
      have d1 : wr.cell? ⟨0, x / 16, none⟩ = some (.int .u8 ((dg (x / 16)).toNat : Int)) := ht.cell (by omega)
      have d2 : wr.cell? ⟨0, x % 16, none⟩ = some (.int .u8 ((dg (x % 16)).toNat : Int)) := ht.cell (by omega)
      have HR := Lib.hid ht; clear ht
      have n0 := World.new_ne wr _ d1
      have n1 := World.new_ne wr _ d2
      have a1 := nibble_and x hx1
      have a2 : (0 : Int) ≤ (x : Int) / 16 := by omega
      have a3 : (x : Int) / 16 < 16 := by omega
      have a4 : ((x : Int) / 16).toNat = x / 16 := by omega
      have a5 : (0 : Int) ≤ (x : Int) % 16 := by omega
      have a6 : (x : Int) % 16 < 16 := by omega
      have a7 : ((x : Int) % 16).toNat = x % 16 := by omega
      have S2 : ∀ w', Below w.heap.size w w' → w'.cell? ⟨0, x / 16, none⟩ = some (.int .u8 ((dg (x / 16)).toNat : Int)) ∧ w'.cell? ⟨0, x % 16, none⟩ = some (.int .u8 ((dg (x % 16)).toNat : Int)) :=
        fun w' hbx => ⟨(HT.out.below hbx HT.out.lt).cell (by omega), (HT.out.below hbx HT.out.lt).cell (by omega)⟩
      have hS2 := Lib.hid S2; clear S2
      go_wp2_with fail
      go_region_held3 (fun w' => w'.cell? ⟨0, x / 16, none⟩ = some (.int .u8 ((dg (x / 16)).toNat : Int)) ∧ w'.cell? ⟨0, x % 16, none⟩ = some (.int .u8 ((dg (x % 16)).toNat : Int))) (first | exact hS2.out _ hbx | go_keep) ((refine step_append_lit isBytes (by rfl) (.tmp 16) (.tmp 25) (by rfl) w _ _ (by rfl) wr [dg (x / 16), dg (x % 16)] (by rfl) HO.out 2 2 (by rfl) (by rfl) (len_hex hl) hbr ?_; intro v' w' hown' _ hbx))
      have hfin := Lib.hid (own_hex hlt HX.out hown')
      have hbx' := Lib.hid hbx
      clear hown' hbx hbr a1 a2 a3 a4 a5 a6 a7 n0 n1 d1 d2 hc
      go_wp2
      go_roundw
      case rel => exact ⟨hbx'.out, k + 1, by omega, by go_num, hfin.out⟩
      case measure => simp [intOf]; omega
    · obtain rfl : k = l.length := by omega
      have h9 := HO.out
      rw [List.take_length] at h9
      obtain ⟨A', c', rfl, _, _, hA'⟩ := h9.bytes'
      have k1 := conv_bytes (d := 9) isBytes Tryd.underlying9 hA' c'
      have hbx' := Lib.hid hbr
      clear hA' hbr h9 HO
      go_wp2
      go_ret
      exact ⟨rfl, hbx'.out⟩
end Go.Proofs.YtjfbfboecpbgbaaDoor
