/-
  What stage 4's Items returns.
-/
import Derived.Test.YtplfpaffjaldoaaAsmG
namespace Go.Proofs.Ytplfpaffjaldoaa
open Go.ChangeShapes Go.WideShapes Go.ChangeAt Go.RowKit
set_option linter.unusedVariables false

/-- how many times a run's item comes -/
def As.rep (r : As.Run) : Nat := min r.many.toNat 700
def As.one (r : As.Run) : List As.It := List.replicate (As.rep r) r.item
def As.upto (L : List As.Run) (i : Nat) : List As.It := (L.take i).flatMap As.one
def As.items (L : List As.Run) : List As.It := As.upto L 30
theorem upto_succ (L : List As.Run) (i : Nat) (hi : i < L.length) : As.upto L (i + 1) = As.upto L i ++ As.one L[i] := by
  unfold As.upto
  rw [List.take_add_one, List.getElem?_eq_getElem hi, List.flatMap_append]
  simp
theorem upto_len (L : List As.Run) (i : Nat) : (As.upto L i).length ≤ 700 * i := by
  induction i with
  | zero => simp [As.upto]
  | succ i ih =>
    by_cases hi : i < L.length
    · rw [upto_succ L i hi, List.length_append]
      have : (As.one L[i]).length ≤ 700 := by unfold As.one As.rep; rw [List.length_replicate]; omega
      omega
    · have e : As.upto L (i + 1) = As.upto L i := by unfold As.upto; rw [List.take_of_length_le (by omega), List.take_of_length_le (by omega)]
      rw [e]; omega
theorem Try.infoItem : (Try.prog.info? 41).map (fun i => (i.zero, i.size, i.bytes)) = some (some (.agg #[.int .i64 0, .int .i64 0, .int .i64 0, .int .i64 0, .int .i64 0, .int .i64 0, .int .i64 0, .int .i64 0, .int .i64 0, .bool false]), 10, 80) := by kernel_rfl
theorem cell10_new (w : World) (x : As.It) (t : TypeId) : ∀ j u, (itC x)[j]? = some u → (w.alloc (.cells #[.int .i64 x.kind, .int .i64 x.label, .int .i64 x.ins.op, .int .i64 x.ins.rd, .int .i64 x.ins.rn, .int .i64 x.ins.rm, .int .i64 x.ins.ra, .int .i64 x.ins.imm, .int .i64 x.ins.cond, .bool x.ins.wide] t)).cell? ((⟨w.heap.size, 0, none⟩ : Addr).add j) = some u := by
  intro j u hj
  have hlt : j < 10 := by
    apply Nat.lt_of_not_le
    intro hge
    rw [List.getElem?_eq_none (by exact hge)] at hj
    cases hj
  rcases (by omega : j = 0 ∨ j = 1 ∨ j = 2 ∨ j = 3 ∨ j = 4 ∨ j = 5 ∨ j = 6 ∨ j = 7 ∨ j = 8 ∨ j = 9) with rfl | rfl | rfl | rfl | rfl | rfl | rfl | rfl | rfl | rfl <;> (simp [itC, insC] at hj; subst hj; simp [go_sem, Addr.add])
theorem OnC.left {W : World} {a : Addr} {cs ds : List Value} (h : OnC W a (cs ++ ds)) : OnC W a cs := fun j u hj => h j u (by
  have hl : j < cs.length := (List.getElem?_eq_some_iff.1 hj).1
  rw [List.getElem?_append_left hl]; exact hj)
set_option maxHeartbeats 8000000 in
set_option maxRecDepth 100000 in
theorem items_any (pl : Option Addr) (cl n : Nat) (L : List As.Run) (w : World) (hn : Hid (L.length = n)) (hm : n ≤ maxLen) (hL : Hid (SliceC runC 11 w (.slice pl n cl) L)) :
    Calls Try.prog 6 #[.slice pl n cl] w fun e w' => ∃ v, e = .returned v ∧ w'.ownsRow w.heap.size 41 10 v (As.items L).length ((As.items L).flatMap itC) ∧ Below w.heap.size w w' := by
  obtain ⟨i0, hi, hz0, hz1, hz2⟩ := info_parts Try.infoItem
  go_enter Try.func6, Try.ntmps6
  go_wp2
  go_loopw [3, 4] (fun O I wr => ∃ i : Nat, I = .int .i64 (i : Int) ∧ i ≤ n ∧ i ≤ 30 ∧ wr.ownsRow w.heap.size 41 10 O (As.upto L i).length ((As.upto L i).flatMap itC) ∧ Below w.heap.size w wr) (fun _ I _ => 30 - (intOf I).toNat)
  case atStart => exact ⟨0, rfl, Nat.zero_le _, by decide, World.ownsRow_nil _ _ _ _, Below.refl _ _⟩
  case round =>
    obtain ⟨i, rfl, hin, hi30, hrow, hB⟩ := hrel
    by_cases hlt : i < n ∧ i < 30
    · have hiL : i < L.length := by rw [hn.out]; exact hlt.1
      have hlt' : (i : Int) < (n : Int) := by omega
      have hlt2 : (i : Int) < 30 := by omega
      have hus := upto_succ L i hiL
      have hul := upto_len L i
      obtain ⟨A, hA⟩ : ∃ A, As.upto L i = A := ⟨_, rfl⟩
      rw [hA] at hus hul hrow
      rcases hx : L[i] with ⟨⟨kind, label, ⟨op, rd, rn, rm, ra, imm, cond, wide⟩⟩, many⟩
      rw [hx] at hus
      have HUS := Lib.hid hus
      have hL2 := hL.out
      obtain ⟨p', c', e', hat⟩ := hL2
      obtain ⟨a, hpa, hOn0⟩ := hat i hiL
      injection e' with ep en ec
      rw [hpa] at ep
      subst ep
      rw [hx] at hOn0
      have HOn := Lib.hid hOn0
      clear hat hpa ec en hx hus hA hOn0
      go_wp2
      go_loopw [3, 5] (fun O J wr => ∃ j : Nat, J = .int .i64 (j : Int) ∧ j ≤ As.rep ⟨⟨kind, label, ⟨op, rd, rn, rm, ra, imm, cond, wide⟩⟩, many⟩ ∧ wr.ownsRow w.heap.size 41 10 O (A.length + j) ((A ++ List.replicate j (⟨kind, label, ⟨op, rd, rn, rm, ra, imm, cond, wide⟩⟩ : As.It)).flatMap itC) ∧ Below w.heap.size w wr) (fun _ J _ => 700 - (intOf J).toNat)
      case atStart => exact ⟨0, rfl, Nat.zero_le _, by simpa using hrow, hB⟩
      case round =>
        clear hrow hB
        obtain ⟨j, rfl, hj, hrow, hB⟩ := hrel
        have hOn : OnC _ (a.add (i * 11)) (runC ⟨⟨kind, label, ⟨op, rd, rn, rm, ra, imm, cond, wide⟩⟩, many⟩) := HOn.out.kept hB
        obtain ⟨x0, x1, x2, x3, x4, x5, x6, x7, x8, x9⟩ := ItAt.of hOn.left
        have x10 : World.cell? _ ⟨(a.add (i * 11)).block, (a.add (i * 11)).off + 10, none⟩ = some (.int .i64 many) := hOn 10 _ rfl
        unfold As.rep at hj
        dsimp only at hj
        by_cases hjl : (j : Int) < many ∧ (j : Int) < 700
        · obtain ⟨hj1, hj2⟩ := hjl
          clear hOn
          go_wp2_with (at_builtin; refine wpList_append_own _ rfl _ _ 23 rfl w.heap.size 41 i0 (.agg #[.int .i64 0, .int .i64 0, .int .i64 0, .int .i64 0, .int .i64 0, .int .i64 0, .int .i64 0, .int .i64 0, .int .i64 0, .bool false]) 10 80 Try.underlying23 hi hz0 hz1 hz2 rfl (by decide) _ _ _ rfl (hrow.alloc _) ⟨wr.heap.size, 0, none⟩ 1 1 (itC ⟨kind, label, ⟨op, rd, rn, rm, ra, imm, cond, wide⟩⟩) rfl rfl (cell10_new _ ⟨kind, label, ⟨op, rd, rn, rm, ra, imm, cond, wide⟩⟩ _) (by simp [itC, insC, Value.oneCell']) (by unfold maxLen; omega) (by omega) (by have := hB.size; simp; omega) ?_; intro v' w3 hown' hgrow3 hnil3)
          refine ⟨⟨j + 1, by simp, by unfold As.rep; dsimp only; omega, ?_, (hB.alloc hB.size _).grown hgrow3 (by have := hB.size; simp; omega) (own_ge hrow)⟩, by simp [intOf]; omega⟩
          rw [List.replicate_succ', ← List.append_assoc, List.flatMap_append]
          simpa [Nat.add_assoc] using hown'
        · have hjr : j = As.rep ⟨⟨kind, label, ⟨op, rd, rn, rm, ra, imm, cond, wide⟩⟩, many⟩ := by unfold As.rep; dsimp only; omega
          have e1 : A.length + j = (As.upto L (i + 1)).length := by rw [HUS.out, List.length_append]; unfold As.one; rw [List.length_replicate, ← hjr]
          have e2 : (A ++ List.replicate j (⟨kind, label, ⟨op, rd, rn, rm, ra, imm, cond, wide⟩⟩ : As.It)).flatMap itC = (As.upto L (i + 1)).flatMap itC := by rw [HUS.out]; unfold As.one; rw [← hjr]
          rw [e1, e2] at hrow
          have hfin := Lib.hid hrow
          clear e1 e2 hrow
          clear hOn
          by_cases hj1 : (j : Int) < many
          · have hj2 : ¬ (j : Int) < 700 := fun h => hjl ⟨hj1, h⟩
            go_wp2
            exact ⟨⟨i + 1, by simp, by omega, by omega, hfin.out, hB⟩, by simp [intOf]; omega⟩
          · go_wp2
            exact ⟨⟨i + 1, by simp, by omega, by omega, hfin.out, hB⟩, by simp [intOf]; omega⟩
    · have hall : As.items L = As.upto L i := by
        unfold As.items As.upto
        by_cases h30 : i = 30
        · rw [h30]
        · have : i = n := by omega
          rw [List.take_of_length_le (by rw [hn.out]; omega), List.take_of_length_le (by rw [hn.out]; omega)]
      rw [← hall] at hrow
      clear hall
      by_cases h1 : (i : Int) < (n : Int)
      · have h2 : ¬ (i : Int) < 30 := by omega
        go_wp2
        go_ret
        exact ⟨_, rfl, hrow, hB⟩
      · go_wp2
        go_ret
        exact ⟨_, rfl, hrow, hB⟩
end Go.Proofs.Ytplfpaffjaldoaa
