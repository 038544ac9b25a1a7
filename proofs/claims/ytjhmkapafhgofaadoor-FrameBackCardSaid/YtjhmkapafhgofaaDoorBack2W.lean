/-
  Messages put, one behind the other, fed byte by byte: one byte, one look.
-/
import Derived.Test.YtjhmkapafhgofaaDoorStr7W
import Derived.Test.YtjhmkapafhgofaaDoorBackF7
import Derived.Test.YtjhmkapafhgofaaDoorFault7
namespace Go.Proofs.YtjhmkapafhgofaaDoor.FrameBack
set_option linter.unusedVariables false
open Go.RowKit

theorem st_below {w w' : World} {g : Nat} {vs : Value} {R : List UInt8} (h : StOk w g vs R) (hb : Below w.heap.size w w') : StOk w' g vs R :=
  ⟨h.1.below hb h.1.lt, h.2.same hb.size fun i hi => hb.block i (h.2.lt hi).2⟩
/-- What holds behind p bytes, of which a messages were seen. -/
def B2 (wr : World) (G : List (Int × List UInt8)) (a p : Nat) (w2 : World) : Prop :=
  Below wr.heap.size wr w2 ∧ a ≤ G.length ∧ ∃ vs R, StOk w2 wr.heap.size vs R ∧ InvOk (bytesOf7 G) p (G.take a) R ∧ (nextF R).size = 0 ∧ (nextF R).code = 0
/-- What holds behind a byte more. -/
def F2 (wr : World) (G : List (Int × List UInt8)) (a p : Nat) (w2 : World) : Prop :=
  Below wr.heap.size wr w2 ∧ a ≤ G.length ∧ ∃ vs R b, StOk w2 wr.heap.size vs (R ++ [b]) ∧ InvOk (bytesOf7 G) p (G.take a) (R ++ [b]) ∧ (nextF R).size = 0 ∧ (nextF R).code = 0
theorem next_nil : nextF [] = ⟨0, [], 0, 0, 0, []⟩ := by unfold nextF; rw [if_pos (by simp)]
theorem B2.start (wr : World) (G : List (Int × List UInt8)) : B2 wr G 0 0 (wr.alloc (.cells #[.slice none 0 0, .int .i64 0, .int .i64 0, .slice none 0 0] 55)) :=
  ⟨(Below.refl _ _).alloc (Nat.le_refl _) _, Nat.zero_le _, .slice none 0 0, [], ⟨Blk.new wr _ _, Tl.nil _ _⟩, by simpa using inv_start (bytesOf7 G), by rw [next_nil], by rw [next_nil]⟩
theorem B2.below {wr w2 w3 : World} {G : List (Int × List UInt8)} {a p : Nat} (h : B2 wr G a p w2) (hb : Below w2.heap.size w2 w3) : B2 wr G a p w3 := by
  obtain ⟨h1, h2, vs, R, h3, h4⟩ := h
  exact ⟨h1.trans (hb.mono h1.size), h2, vs, R, st_below h3 hb, h4⟩
theorem feed_back {wr w2 : World} {G : List (Int × List UInt8)} {a p c : Nat} {A : Option Addr} (h : B2 wr G a p w2) (hp : p < (bytesOf7 G).length) (hl : (bytesOf7 G).length ≤ 1000000) (hb : Bytes w2 A ((bytesOf7 G).drop p |>.take 1)) :
    Calls Tryd.prog 18 #[.pointer (some ⟨wr.heap.size, 0, none⟩), .slice A 1 c] w2 fun e w' => e = .returned (.tuple #[]) ∧ F2 wr G a (p + 1) w' := by
  obtain ⟨hbw, ha, vs, R, hs, hi, hz, hc⟩ := h
  have e1 : ((bytesOf7 G).drop p).take 1 = [(bytesOf7 G)[p]] := by
    rw [List.drop_eq_getElem_cons hp]; rfl
  have hf := inv_feed (n := 1) hi (by omega)
  rw [e1] at hb hf
  have hR : R.length ≤ p := by have := hi.1; omega
  have q := Feed_any wr.heap.size vs R A c [(bytesOf7 G)[p]] w2 hs hb (by simp; omega)
  refine Calls.mono (show Calls Tryd.prog 18 #[.pointer (some ⟨wr.heap.size, 0, none⟩), .slice A 1 c] w2 _ from q) fun e w' h => ?_
  obtain ⟨he, vs', hs', hke⟩ := h
  exact ⟨he, hbw.trans (hke.below (Nat.le_refl _) (fun i hi => Nat.le_of_lt (hs.own hi).1) hbw.size), ha, vs', R, _, hs', hf, hz, hc⟩
/-- What a look tells. -/
def Look2 (wr : World) (G : List (Int × List UInt8)) (a p : Nat) (e : Ending) (w' : World) : Prop :=
  (∃ (s : Int × List UInt8) (A : Option Addr) (c : Nat), G[a]? = some s ∧ e = .returned (.tuple #[.int .i64 s.1, .slice A s.2.length c, .bool true]) ∧ Bytes w' A s.2 ∧ B2 wr G (a + 1) p w') ∨
  (∃ (kd : Int) (A : Option Addr) (n c : Nat), e = .returned (.tuple #[.int .i64 kd, .slice A n c, .bool false]) ∧ B2 wr G a p w')
theorem look_back {wr w2 : World} {G : List (Int × List UInt8)} {a p : Nat} (h : F2 wr G a p w2) (hG : allF ((bytesOf7 G).length + 1) (bytesOf7 G) = (G, ((0, 0, []), 0))) (hl : (bytesOf7 G).length ≤ 1000000) (ht : TabL w2) :
    Calls Tryd.prog 19 #[.pointer (some ⟨wr.heap.size, 0, none⟩)] w2 (Look2 wr G a p) := by
  obtain ⟨hbw, ha, vs, R, b, hs, hi, hz, hc⟩ := h
  refine (SNext_any wr.heap.size vs (R ++ [b]) w2 hs (by have h1 := hi.1; have h2 := hi.2.1; omega) ht).mono fun e w' h => ?_
  rcases h with ⟨hC, vs', A, c, rfl, hs', hke, f, q, hown, hv⟩ | ⟨hC, rfl, hs', hke⟩
  · have hbw' := hbw.trans (hke.below (Nat.le_refl _) (fun i hi => Nat.le_of_lt (hs.own hi).1) hbw.size)
    by_cases hS : (nextF (R ++ [b])).size = 0
    · right
      exact ⟨_, A, _, c, by rw [hS]; rfl, hbw', ha, vs', _, hs', by rw [hS]; exact hi, by rw [hS]; exact hS, by rw [hS]; exact hC⟩
    · left
      have ht2 := inv_take hi hS
      have h3 := ht2.2.2
      rw [hG] at h3
      have h4 := congrArg Prod.fst h3
      simp only at h4
      have hlen : (G.take a).length = a := by rw [List.length_take]; omega
      have h5 : G[a]? = some (((nextF (R ++ [b])).kind : Int), (nextF (R ++ [b])).body) := by
        rw [h4, List.append_assoc, List.getElem?_append_right (by omega), hlen]
        simp
      have hlt := (List.getElem?_eq_some_iff.1 h5).1
      have h6 : G.take (a + 1) = G.take a ++ [(((nextF (R ++ [b])).kind : Int), (nextF (R ++ [b])).body)] := by
        rw [List.take_succ_eq_append_getElem hlt, (List.getElem?_eq_some_iff.1 h5).2]
      have hdr : (R ++ [b]).drop (nextF (R ++ [b])).size = [] := by
        rw [nextF_one hz hc hS]
        exact List.drop_eq_nil_of_le (by simp)
      rw [hdr] at ht2 hs'
      exact ⟨_, A, c, h5, by rw [show decide (0 < (nextF (R ++ [b])).size) = true from decide_eq_true (by omega)], hown.bytes, hbw', hlt, vs', [], hs', by rw [h6]; exact ht2, by rw [next_nil], by rw [next_nil]⟩
  · exfalso
    have h1 := inv_bad hi hC
    unfold InvBad at h1
    rw [hG] at h1
    have h2 := congrArg (fun x : List (Int × List UInt8) × (Nat × Nat × List UInt8) × Nat => x.2.1.1) h1
    simp at h2
theorem B2.fin {wr w2 : World} {G : List (Int × List UInt8)} {a : Nat} (h : B2 wr G a (bytesOf7 G).length w2) (hG : allF ((bytesOf7 G).length + 1) (bytesOf7 G) = (G, ((0, 0, []), 0))) :
    Below wr.heap.size wr w2 ∧ a = G.length ∧ ∃ vs, StOk w2 wr.heap.size vs [] := by
  obtain ⟨hbw, ha, vs, R, hs, hi, hz, hc⟩ := h
  have h1 := inv_end hi hz hc
  rw [hG] at h1
  injection h1 with h2 h3
  injection h3 with _ h4
  have h5 := congrArg List.length h2
  rw [List.length_take] at h5
  have h6 : R = [] := List.eq_nil_of_length_eq_zero h4.symm
  subst h6
  exact ⟨hbw, by omega, vs, hs⟩
end Go.Proofs.YtjhmkapafhgofaaDoor.FrameBack
