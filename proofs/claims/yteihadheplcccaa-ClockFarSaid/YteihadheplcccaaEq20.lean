/-
  Three numbers that are the same, to '=='.
-/
import Derived.Test.YteihadheplcccaaSet20
import Derived.Laws.StructEq
namespace Go.Proofs.Yteihadheplcccaa
open Go.RowKit

theorem eq3d (d : Nat) (a b c : Int) (w : World) : (Op.equalIn (d + 2) 22 (.agg #[.int .i64 a, .int .i64 b, .int .i64 c]) (.agg #[.int .i64 a, .int .i64 b, .int .i64 c])).run Try.prog w = .ok true w := by
  have hp : ∀ (x y z : Value) (w : World), (part 3 #[x, y, z] 0).run Try.prog w = .ok x w ∧ (part 3 #[x, y, z] 1).run Try.prog w = .ok y w ∧ (part 3 #[x, y, z] 2).run Try.prog w = .ok z w := fun x y z w => ⟨by kernel_rfl, by kernel_rfl, by kernel_rfl⟩
  have hs : ∀ w : World, (sizeOf 3).run Try.prog w = .ok 1 w := fun w => by kernel_rfl
  have h0 := fun (n : Int) (w : World) => run_equalIn_int (P := Try.prog) w d 3 .i64 .i64 n n Try.underlying3
  rw [Op.equalIn]
  simp only [Sem.run_bind, run_underlying Try.underlying22, Result.andThen_ok, hs]
  simp [Std.Legacy.Range.forIn_eq_forIn_range', Std.Legacy.Range.size, List.range', hp, h0]
theorem eq3 (a b c : Int) (w : World) : (binOp .eql 22 (.agg #[.int .i64 a, .int .i64 b, .int .i64 c]) (.agg #[.int .i64 a, .int .i64 b, .int .i64 c])).run Try.prog w = .ok (.bool true) w := by
  rw [run_eql_struct, show (10000 : Nat) = 9998 + 2 from rfl, eq3d]
  rfl
theorem eqC (a b c : Int) (w : World) : (binOp .eql 24 (.agg #[.int .i64 a, .int .i64 b, .int .i64 c]) (.agg #[.int .i64 a, .int .i64 b, .int .i64 c])).run Try.prog w = .ok (.bool true) w := by
  have hp : ∀ (x y z : Value) (w : World), (part 22 #[x, y, z] 0).run Try.prog w = .ok (.agg #[x, y, z]) w := fun x y z w => by kernel_rfl
  have hl : (Try.prog.fieldsOf 24).toList.map (fun f => (f.name, f.type, f.offset)) = [("Left", 22, 0)] := by kernel_rfl
  rw [run_eql_struct, show (10000 : Nat) = 9999 + 1 from rfl, run_equalIn_struct w 9999 24 _ _ (by kernel_rfl) (by kernel_rfl)]
  generalize (Try.prog.fieldsOf 24).toList = fs at hl
  obtain ⟨f, rfl⟩ : ∃ f, fs = [f] := by
    rcases fs with _ | ⟨f, _ | ⟨g, fs⟩⟩
    · simp at hl
    · exact ⟨f, rfl⟩
    · simp at hl
  simp only [List.map_cons, List.map_nil, List.cons.injEq, Prod.mk.injEq, and_true] at hl
  obtain ⟨h1, h2, h3⟩ := hl
  have he := eq3d 9997 a b c w
  simp only [Nat.reduceAdd] at he
  simp [Op.eqFields, h1, h2, h3, hp, he]
end Go.Proofs.Yteihadheplcccaa
