/-
  Capabilities' bytes, by the code.
-/
import Derived.Test.YtpdnpphkkobhgaaPart6
import Derived.Test.YtpdnpphkkobhgaaUp6
import Derived.Test.YtpdnpphkkobhgaaCap6
namespace Go.Proofs.Ytpdnpphkkobhgaa
set_option linter.unusedVariables false
set_option linter.unusedSimpArgs false
open Go.RowKit

def putCapsF : List UInt8 → List (Int × List UInt8) → Option (List UInt8)
  | out, [] => some out
  | out, s :: L => if inUp 255 s.1 = false ∨ 253 < (out ++ partL s.1 s.2).length then none else putCapsF (out ++ partL s.1 s.2) L
theorem drop_at {L : List Cp} {j : Nat} {s : Cp} (hs : L[j]? = some s) : (L.map Cp.abs).drop j = s.abs :: (L.map Cp.abs).drop (j + 1) := by
  have hj : j < (L.map Cp.abs).length := by simpa using (List.getElem?_eq_some_iff.1 hs).1
  have e : (L.map Cp.abs)[j] = s.abs := by
    have := (List.getElem?_eq_some_iff.1 hs).2
    simp [this]
  rw [List.drop_eq_getElem_cons hj, e]
/-- What putCaps tells. -/
def RetPutCaps (w : World) (o : Option (List UInt8)) (e : Ending) (w' : World) : Prop :=
  Below w.heap.size w w' ∧ ((o = none ∧ e = .returned (.tuple #[.slice none 0 0, .bool false])) ∨
   ∃ A c l, o = some l ∧ e = .returned (.tuple #[.slice A l.length c, .bool true]) ∧ l.length ≤ 253 ∧ l.length ≤ c ∧ c ≤ maxLen ∧ Own w' w.heap.size 5 (.slice A l.length c) l)
def CPutRel (w : World) (L : List Cp) (v i : Value) (wr : World) : Prop :=
  Below w.heap.size w wr ∧ ∃ (j : Nat) (out : List UInt8), j ≤ L.length ∧ i = .int .i64 (j : Int) ∧ putCapsF [] (L.map Cp.abs) = putCapsF out ((L.map Cp.abs).drop j) ∧ out.length ≤ 253 ∧ Own wr w.heap.size 5 v out
theorem one_int (w : World) (e : Nat) (k : Int) : Ints (w.alloc (.cells #[.int .i64 k] e)) (some ⟨w.heap.size, 0, none⟩) [k] := fun _ =>
  ⟨w.heap.size, 0, rfl, by simp, fun j hj => by
    rcases j with _ | j
    · exact (Blk.new w e [.int .i64 k]).cell 0
    · simp at hj⟩

set_option maxHeartbeats 6400000 in
theorem putCaps_any (A : Option Addr) (n c : Nat) (L : List Cp) (hn : n = L.length) (w : World) (h : CpIn w w.heap.size A L) (hl : L.length ≤ 1152921504606846976) (hr : ∀ s ∈ L, s.data.length ≤ s.cap ∧ s.cap ≤ maxLen) (hd : ∀ s ∈ L, s.data.length ≤ 1000000) :
    Calls Try.prog 26 #[.slice A n c] w (RetPutCaps w (putCapsF [] (L.map Cp.abs))) := by
  subst hn
  have HS := Lib.hid h; have HD := Lib.hid hd
  clear h hr hd
  go_enter Try.func26, Try.ntmps26
  go_wp2_with fail
  go_loopw [4, 9] (fun v i wr => CPutRel w L v i wr) (fun _ i _ => L.length - (intOf i).toNat)
  case atStart => exact ⟨Below.refl _ _, 0, [], Nat.zero_le _, rfl, rfl, by simp, Own.nil _ _ _⟩
  case round =>
    obtain ⟨hbr, j, out, hj, rfl, hF, ho253, hO⟩ := hrel
    obtain ⟨Av, cv, rfl, fv, gv⟩ := hO.form
    have HBR := Lib.hid hbr; have HF := Lib.hid hF; have HO := Lib.hid hO; have HV := Lib.hid (And.intro fv gv)
    clear hF hO fv gv
    by_cases hlt : j < L.length
    · obtain ⟨s, hs⟩ : ∃ s, L[j]? = some s := ⟨_, List.getElem?_eq_getElem hlt⟩
      obtain ⟨b, off, rfl, hb, k1, k2, hy⟩ := (HS.out.below hbr (Nat.le_refl _)).at hs
      have hdl := HD.out s (List.mem_of_getElem? hs)
      have hF2 := HF.out
      rw [drop_at hs] at hF2
      obtain ⟨sk, sa, sc, sd⟩ := s
      dsimp only at k1 k2 hy hdl
      dsimp only [Cp.abs] at hF2
      have HF2 := Lib.hid hF2
      have kc := Blk.new wr 54 [.int .i64 sk, .slice sa sd.length sc]
      have c0 : World.cell? _ ⟨wr.heap.size, 0, none⟩ = some _ := kc.cell 0
      have c1 : World.cell? _ ⟨wr.heap.size, 1, none⟩ = some _ := kc.cell 1
      have hb1 := (Below.refl wr.heap.size wr).alloc (Nat.le_refl _) (.cells #[.int .i64 sk, .slice sa sd.length sc] 54)
      have Q := Lib.hid (part_any sk sa sd.length sc sd rfl _ (At.bytes (At.below hy hb1 hbr.size) (Nat.le_trans hbr.size hb1.size)) hdl)
      have HB1 := Lib.hid (hbr.trans (hb1.mono hbr.size))
      have HO1 := Lib.hid (HO.out.below hb1)
      have HKC := Lib.hid kc
      have HNB := Lib.hid (fun k hk => (World.ownsRow.lt HO.out k hk).2)
      have hpl : (partL sk sd).length = 2 + sd.length := by simp [partL]; omega
      have HPL := Lib.hid hpl
      clear kc hb1 hy hs hF2 hbr hpl
      go_wp2_with fail
      refine Q.out.mono ?_
      rintro e w2 ⟨A2, c2, rfl, f2, g2, ho2, hb2⟩
      have HBW2 := Lib.hid (HB1.out.trans (hb2.mono HB1.out.size))
      have HY2 := Lib.hid ho2.bytes
      have HO2 := Lib.hid (HO1.out.below hb2)
      have HK2 := Lib.hid (HKC.out.below hb2 HKC.out.lt)
      have HSZ := Lib.hid (show out.length + (partL sk sd).length ≤ 140737488355328 by rw [HPL.out]; omega)
      clear ho2 hb2 Q
      go_wp2_with (at_builtin; refine wpList_append_bytes isBytes rfl (.tmp 13) (.tmp 18) rfl w _ _ rfl HO2.out A2 (partL sk sd) _ c2 rfl rfl HY2.out HSZ.out HBW2.out ?_)
      intro v' w3 hov3 hg3 hb3
      have hbl := hg3.block wr.heap.size HK2.out.lt (fun e => by have := HNB.out _ e.symm; omega)
      have c0' : w3.cell? ⟨wr.heap.size, 0, none⟩ = some (.int .i64 sk) := by rw [World.cell?_of_block (a := ⟨wr.heap.size, 0, none⟩) hbl]; exact HK2.out.cell 0
      have hb4 := (Below.refl w3.heap.size w3).alloc (Nat.le_refl _) (.cells #[.int .i64 sk] 3)
      have QU := upTo_any 255 (some ⟨w3.heap.size, 0, none⟩) 1 1 [sk] rfl _ (one_int w3 3 sk) (by simp)
      have hau : allUp 255 [sk] = inUp 255 sk := by simp [allUp]
      rw [hau] at QU
      obtain ⟨l', hl'⟩ : ∃ l', l' = out ++ partL sk sd := ⟨_, rfl⟩
      rw [← hl'] at hov3
      have hll : l'.length = out.length + (partL sk sd).length := by rw [hl', List.length_append]
      obtain ⟨Av', cv', rfl, fv', gv'⟩ := hov3.form
      have HOV := Lib.hid (hov3.below hb4)
      have HB4 := Lib.hid (hb3.trans (hb4.mono hb3.size))
      have HL := Lib.hid hl'
      have HV2 := Lib.hid (And.intro fv' gv')
      clear hov3 hg3 hb3 hbl hb4 hau hl' hll HY2 HO2 HK2 HSZ fv' gv'
      cases hup : inUp 255 sk with
      | false =>
        rw [hup] at QU
        have QU1 := Lib.hid QU
        have HN := Lib.hid (show putCapsF [] (L.map Cp.abs) = none by rw [HF2.out]; unfold putCapsF; rw [if_pos (.inl hup)])
        clear QU hup
        go_wp2_with fail
        refine QU1.out.mono ?_
        rintro e w5 ⟨rfl, hb5⟩
        have HB5 := Lib.hid (HB4.out.trans (hb5.mono HB4.out.size))
        clear hb5
        go_wp2_with fail
        exact bodyPost_ret (v := .tuple #[.slice none 0 0, .bool false]) (by simp [results, Try.results26, go_sem]) rfl ⟨HB5.out, .inl ⟨HN.out, rfl⟩⟩
      | true =>
        rw [hup] at QU
        have QU1 := Lib.hid QU
        clear QU
        by_cases hlen : 253 < l'.length
        · have hlI : (253 : Int) < (l'.length : Int) := by omega
          have HN := Lib.hid (show putCapsF [] (L.map Cp.abs) = none by rw [HF2.out]; unfold putCapsF; rw [if_pos (.inr (by rw [← HL.out]; exact hlen))])
          clear hup hlen
          go_wp2_with fail
          refine QU1.out.mono ?_
          rintro e w5 ⟨rfl, hb5⟩
          have HB5 := Lib.hid (HB4.out.trans (hb5.mono HB4.out.size))
          clear hb5
          go_wp2_with fail
          exact bodyPost_ret (v := .tuple #[.slice none 0 0, .bool false]) (by simp [results, Try.results26, go_sem]) rfl ⟨HB5.out, .inl ⟨HN.out, rfl⟩⟩
        · have hlI : ¬ (253 : Int) < (l'.length : Int) := by omega
          have HN := Lib.hid (show putCapsF [] (L.map Cp.abs) = putCapsF l' ((L.map Cp.abs).drop (j + 1)) by
            rw [HF2.out]
            show (if _ then _ else _) = _
            have hnot : ¬ (inUp 255 sk = false ∨ 253 < (out ++ partL sk sd).length) := fun e => e.elim (fun e => by rw [hup] at e; cases e) (fun e => hlen (by rw [HL.out]; exact e))
            rw [if_neg hnot, ← HL.out])
          have HLE := Lib.hid hlen
          clear hup hlen
          go_wp2_with fail
          refine QU1.out.mono ?_
          rintro e w5 ⟨rfl, hb5⟩
          have HB5 := Lib.hid (HB4.out.trans (hb5.mono HB4.out.size))
          have HO5 := Lib.hid (HOV.out.below hb5)
          clear hb5
          go_wp2_with fail
          go_roundw
          case rel => exact ⟨HB5.out, j + 1, l', by omega, by go_num, HN.out, by have := HLE.out; omega, HO5.out⟩
          case measure => simp [intOf]; omega
    · obtain rfl : j = L.length := by omega
      have hF3 := HF.out
      rw [List.drop_of_length_le (by simp)] at hF3
      have HF3 := Lib.hid hF3
      clear hF3 hbr
      go_wp2_with fail
      exact bodyPost_ret (v := .tuple #[.slice Av out.length cv, .bool true]) (by simp [results, Try.results26, go_sem]) rfl ⟨HBR.out, .inr ⟨Av, cv, out, HF3.out, rfl, ho253, HV.out.1, HV.out.2, HO.out⟩⟩
end Go.Proofs.Ytpdnpphkkobhgaa
