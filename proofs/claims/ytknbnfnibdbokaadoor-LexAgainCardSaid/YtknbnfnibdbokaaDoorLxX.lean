/-
  Tokens and errors compared, by value (layer 11).
-/
import Derived.DeepKeys
import Derived.Test.YtknbnfnibdbokaaDoorLxS
namespace Go.Proofs.YtknbnfnibdbokaaDoor
open Go.ChangeShapes Go.WideShapes Go.ChangeAt Go.RowKit
set_option linter.unusedVariables false
set_option linter.unusedSimpArgs false

theorem eqF_cons {d : Nat} {xs ys : Array Value} {w : World} {f : Field} {fs : List Field} {a b : Value} {r : Bool} (hn : f.name ≠ "_") (h1 : (part f.type xs f.offset).run Tryd.prog w = .ok a w) (h2 : (part f.type ys f.offset).run Tryd.prog w = .ok b w) (h3 : (Op.equalIn d f.type a b).run Tryd.prog w = .ok r w) :
    (Op.eqFields d xs ys (f :: fs)).run Tryd.prog w = if r then (Op.eqFields d xs ys fs).run Tryd.prog w else .ok false w := by
  rw [Op.eqFields]
  split
  · simp only [Sem.run_bind, h1, h2, h3, Result.andThen_ok]
    cases r <;> rfl
  · simp_all
theorem part_int {cs : Array Value} {k : Nat} {a : Int} (h : cs[k]? = some (.int .i64 a)) (w : World) : (part 3 cs k).run Tryd.prog w = .ok (.int .i64 a) w :=
  run_part_plain w (by kernel_rfl) h
theorem part_err {cs : Array Value} {k : Nat} {a : Int} (h : cs[k]? = some (.int .i64 a)) (w : World) : (part 23 cs k).run Tryd.prog w = .ok (.int .i64 a) w :=
  run_part_plain w (by kernel_rfl) h
theorem part_str {cs : Array Value} {k : Nat} {s : ByteArray} (h : cs[k]? = some (.string s)) (w : World) : (part 9 cs k).run Tryd.prog w = .ok (.string s) w :=
  run_part_plain w (by kernel_rfl) h
theorem tok_eq (k p n k' p' n' : Int) (t t' : ByteArray) (w : World) : (Op.equalIn 10000 37 (.agg (tkA k p n t)) (.agg (tkA k' p' n' t'))).run Tryd.prog w = .ok (k == k' && (p == p' && (n == n' && (t.toList == t'.toList)))) w := by
  have hp : Tryd.prog.stoodInHeld 37 = false := by kernel_rfl
  have hu : Tryd.prog.underlying 37 = some (.struct (Tryd.prog.fieldsOf 37)) := by kernel_rfl
  have hf : ∃ f0 f1 f2 f3 : Field, (Tryd.prog.fieldsOf 37).toList = [f0, f1, f2, f3] ∧ (f0.name ≠ "_" ∧ f0.type = 3 ∧ f0.offset = 0) ∧ (f1.name ≠ "_" ∧ f1.type = 3 ∧ f1.offset = 1) ∧ (f2.name ≠ "_" ∧ f2.type = 3 ∧ f2.offset = 2) ∧ (f3.name ≠ "_" ∧ f3.type = 9 ∧ f3.offset = 3) :=
    ⟨_, _, _, _, rfl, ⟨by decide, rfl, rfl⟩, ⟨by decide, rfl, rfl⟩, ⟨by decide, rfl, rfl⟩, ⟨by decide, rfl, rfl⟩⟩
  obtain ⟨f0, f1, f2, f3, hl, ⟨n0, t0, o0⟩, ⟨n1, t1, o1⟩, ⟨n2, t2, o2⟩, ⟨n3, t3, o3⟩⟩ := hf
  rw [run_equalIn_struct w 9999 _ _ _ hu hp, hl]
  rw [eqF_cons n0 (by rw [t0, o0]; exact part_int rfl w) (by rw [t0, o0]; exact part_int rfl w) (by rw [t0]; exact run_equalIn_int w 9998 _ .i64 .i64 k k' Tryd.underlying3)]
  rw [eqF_cons n1 (by rw [t1, o1]; exact part_int rfl w) (by rw [t1, o1]; exact part_int rfl w) (by rw [t1]; exact run_equalIn_int w 9998 _ .i64 .i64 p p' Tryd.underlying3)]
  rw [eqF_cons n2 (by rw [t2, o2]; exact part_int rfl w) (by rw [t2, o2]; exact part_int rfl w) (by rw [t2]; exact run_equalIn_int w 9998 _ .i64 .i64 n n' Tryd.underlying3)]
  rw [eqF_cons n3 (by rw [t3, o3]; exact part_str rfl w) (by rw [t3, o3]; exact part_str rfl w) (by rw [t3]; exact run_equalIn_string w 9998 _ t t' Tryd.underlying9)]
  cases (k == k') <;> cases (p == p') <;> cases (n == n') <;> cases (t.toList == t'.toList) <;> rfl
theorem bad_eq (k p k' p' : Int) (w : World) : (Op.equalIn 10000 25 (.agg (bdA k p)) (.agg (bdA k' p'))).run Tryd.prog w = .ok (k == k' && p == p') w := by
  have hp : Tryd.prog.stoodInHeld 25 = false := by kernel_rfl
  have hu : Tryd.prog.underlying 25 = some (.struct (Tryd.prog.fieldsOf 25)) := by kernel_rfl
  have hf : ∃ f0 f1 : Field, (Tryd.prog.fieldsOf 25).toList = [f0, f1] ∧ (f0.name ≠ "_" ∧ f0.type = 23 ∧ f0.offset = 0) ∧ (f1.name ≠ "_" ∧ f1.type = 3 ∧ f1.offset = 1) :=
    ⟨_, _, rfl, ⟨by decide, rfl, rfl⟩, ⟨by decide, rfl, rfl⟩⟩
  obtain ⟨f0, f1, hl, ⟨n0, t0, o0⟩, ⟨n1, t1, o1⟩⟩ := hf
  rw [run_equalIn_struct w 9999 _ _ _ hu hp, hl]
  rw [eqF_cons n0 (by rw [t0, o0]; exact part_err rfl w) (by rw [t0, o0]; exact part_err rfl w) (by rw [t0]; exact run_equalIn_int w 9998 _ .i64 .i64 k k' Tryd.underlying23)]
  rw [eqF_cons n1 (by rw [t1, o1]; exact part_int rfl w) (by rw [t1, o1]; exact part_int rfl w) (by rw [t1]; exact run_equalIn_int w 9998 _ .i64 .i64 p p' Tryd.underlying3)]
  cases (k == k') <;> cases (p == p') <;> rfl
end Go.Proofs.YtknbnfnibdbokaaDoor
