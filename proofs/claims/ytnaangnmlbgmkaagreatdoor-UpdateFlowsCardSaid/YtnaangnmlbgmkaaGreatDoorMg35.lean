/-
  Texts of this seat, put together: FillS5.
-/
import Derived.Test.YtnaangnmlbgmkaaGreatDoorBackK5Mg
import Derived.Test.YtnaangnmlbgmkaaGreatDoorFillN5Mg
import Derived.Test.YtnaangnmlbgmkaaGreatDoorUReadQ5Mg
import Derived.Test.YtnaangnmlbgmkaaGreatDoorMg26
import Derived.Test.YtnaangnmlbgmkaaGreatDoorMg8
/-
  update.Fill of what may be told, and what update.Read tells of the body: a part of what was left is told, and x is what is left of it.
-/
namespace Go.Proofs.YtnaangnmlbgmkaaGreatDoor
set_option linter.unusedVariables false
set_option linter.unusedSimpArgs false
open Go.RowKit

/-- A part of l lies in this row of bytes, and x is the other part. -/
def PartU (l x : Uv) (A : Option Addr) (n c : Nat) (w' : World) : Prop :=
  ∃ P1 P2 : List Px, P1 ++ x.gone = l.gone ∧ P2 ++ x.news = l.news ∧ 1 ≤ P1.length + P2.length ∧ ((x.news ≠ [] ∧ likeA x.attrs l.attrs) ∨ (x.news = [] ∧ x.attrs = noneA)) ∧
    ∀ w2, Below w'.heap.size w' w2 → Calls Tryz.prog 12 #[.slice A n c, .bool true, .bool false, .int .u32 0] w2 fun e w3 => ∃ y : Uv, e = .returned (.tuple #[.agg y.row.toArray, fault0]) ∧ (y.In w3 w3.heap.size ∧ RowsP w2.heap.size w3 y) ∧ Below w2.heap.size w2 w3 ∧ y.gone = P1 ∧ y.news = P2
def RetStep (w : World) (l : Uv) (e : Ending) (w' : World) : Prop :=
  (∃ (A : Option Addr) (n c : Nat) (x : Uv), e = .returned (.tuple #[.slice A n c, .agg x.row.toArray, .int .i64 0]) ∧ OwnUv w.heap.size w' x ∧ Below w.heap.size w w' ∧ PartU l x A n c w') ∨
    (∃ x : Uv, e = .returned (.tuple #[.slice none 0 0, .agg x.row.toArray, .int .i64 4]) ∧ Below w.heap.size w w')
theorem Fill_step (l : Uv) (R : Int) (w : World) (ht : TabK w) (h : l.In w w.heap.size) (hR : 900 ≤ R ∧ R ≤ 1200)
    (hl : l.attrs.path.length ≤ 1000000 ∧ (∀ s ∈ l.attrs.path, s.nums.length ≤ 1000000000) ∧ l.attrs.comms.length ≤ 1000000 ∧ l.attrs.raws.length ≤ 1000000 ∧ ∀ s ∈ l.attrs.raws, s.data.length ≤ 1000000) (hl2 : l.gone.length ≤ 1000 ∧ l.news.length ≤ 1000)
    (d : List UInt8) (E : Int) (hd : l.news ≠ [] → d.length ≤ 5000) (hput : ∀ W, Below w.heap.size w W → Calls Tryz.prog 44 #[.agg l.attrs.row.toArray, .bool true] W (RetE W d E)) (hse : (sayF l d E).2 = 0)
    (hne : l.gone ≠ [] ∨ l.news ≠ []) (hrun : l.news ≠ [] → ∃ Sf, RunK (fun _ => true) true d rs0 Sf ∧ (1 ∈ Sf.kinds ∧ 2 ∈ Sf.kinds ∧ 3 ∈ Sf.kinds)) :
    Calls Tryz.prog 15 #[.agg l.row.toArray, .bool true, .int .i64 R] w (RetStep w l) := by
  have hok := say_ok hse
  have hokg : ∀ q, pxsOk (l.gone.take q) = true := fun q => List.all_eq_true.2 fun y hy => List.all_eq_true.1 hok.1 y (List.mem_of_mem_take hy)
  have hokn : ∀ q, pxsOk (l.news.take q) = true := fun q => List.all_eq_true.2 fun y hy => List.all_eq_true.1 hok.2 y (List.mem_of_mem_take hy)
  by_cases hg : l.gone = []
  · have hn0 : l.news ≠ [] := hne.resolve_left (fun q => q hg)
    obtain ⟨Sf, ⟨kn, hkr⟩, hk3⟩ := hrun hn0
    have hd := hd hn0
    have hsd : (sayF l d E).1 = d := by unfold sayF; rw [if_pos (by rw [hok.1, hok.2]; rfl), if_neg hn0]
    have hkl := kinds_len kn d rs0 Sf hkr
    have hkl2 : Sf.kinds.length ≤ 1000000 := by have : rs0.kinds.length = 0 := rfl; omega
    refine (Fill_news l true R w h hR hl hl2 d E hput hse (by rw [hsd]; omega) hg hn0).mono ?_
    rintro e w' (⟨j, hj1, hj2, A, c, x, rfl, f1, f2, ho, hox, hb, y1, y2, y3, y4⟩ | ⟨x, rfl, hb⟩)
    · left
      rw [hsd] at ho f1 ⊢
      have hpl := pxB_take_len (L := l.news) j
      refine ⟨A, _, c, x, rfl, hox, hb, [], l.news.take j, ?_, ?_, ?_, ?_, fun w2 q => ?_⟩
      · rw [y1, hg]; rfl
      · rw [y2]; exact List.take_append_drop _ _
      · rw [List.length_take]; simp only [List.length_nil]; omega
      · by_cases hd0 : x.news = []
        · exact .inr ⟨hd0, y3 (by rw [← y2]; exact hd0)⟩
        · exact .inl ⟨hd0, y4 (by rw [← y2]; exact hd0)⟩
      · refine (URead_outerP A c (updB [] d (pxB (l.news.take j))) d [] (l.news.take j) Sf false w2 (Own.bytes (row_below ho q)) f1 f2 rfl rfl (fun _ h => by cases h) (hokn j) (fun y hy => h.newsF y (List.mem_of_mem_take hy)) (by rw [updB_len5]; simp only [List.length_nil]; omega) (by decide) (by omega) (by decide) (by rw [List.length_take]; omega)
          (fun Wx B dd hq hy h1 h2 => ReadA_rows (fun _ => true) B dd d Wx (ht.below (hb.trans ((q.trans (hq.mono q.size)).mono hb.size)) ht.lt) hy h1 h2 (by omega) Sf ⟨kn, hkr⟩ (steps_wide _))
          (by intro e0; have := congrArg List.length e0; rw [List.length_take] at this; simp only [List.length_nil] at this; omega) rfl ⟨hkl2, hk3⟩).mono ?_
        rintro e w3 ⟨y, rfl, z1, z2, z3, z4, _⟩
        exact ⟨y, rfl, z1, z2, z3, z4⟩
    · exact .inr ⟨x, rfl, hb⟩
  · refine (Fill_gone l true R w h hR hl hl2 d E hput hse hg).mono ?_
    rintro e w' ⟨j, hj1, hj2, A, c, x, rfl, f1, f2, ho, hox, hb, y1, y2, y3, y4⟩
    left
    have hpl := pxB_take_len (L := l.gone) j
    refine ⟨A, _, c, x, rfl, hox, hb, l.gone.take j, [], ?_, ?_, ?_, ?_, fun w2 q => ?_⟩
    · rw [y1]; exact List.take_append_drop _ _
    · rw [y2]; rfl
    · rw [List.length_take]; simp only [List.length_nil]; omega
    · by_cases hd0 : x.news = []
      · exact .inr ⟨hd0, y3 (by rw [← y2]; exact hd0)⟩
      · exact .inl ⟨hd0, y4 (by rw [← y2]; exact hd0)⟩
    · refine (URead_noneP A c (updB (pxB (l.gone.take j)) [] []) [] (l.gone.take j) [] rs0 false w2 (Own.bytes (row_below ho q)) f1 f2 rfl (hokg j) (fun y hy => h.goneF y (List.mem_of_mem_take hy)) rfl (fun y hy => by cases hy) (by rw [updB_len5]; simp only [List.length_nil]; omega) (by omega) (by decide) (by rw [List.length_take]; omega) (by decide)
        (fun Wx B dd hq hy h1 h2 => ReadA_wide (fun _ => false) B dd [] Wx (ht.below (hb.trans ((q.trans (hq.mono q.size)).mono hb.size)) ht.lt) hy h1 h2 (by decide) rs0 (RunK.nil _ _ _) (fun gx f k S T A A2 c n2 c2 B' v r b W h => by cases h)) rfl).mono ?_
      rintro e w3 ⟨y, rfl, z1, z2, z3, z4, _⟩
      exact ⟨y, rfl, z1, z2, z3, z4⟩
end Go.Proofs.YtnaangnmlbgmkaaGreatDoor
