/-
Plain mathematics of bytes as instructions, one behind the other. It names nothing of the translated program.
What package decode's each hands over.
What package decode's All returns.
What the document's own All returns.
What stage 3's Same returns.
-/
import Derived.Test.YtdefgliogmlghaaDecodeM
import Derived.RangeFuncNested
import Derived.RangeFuncBound
import Derived.RangeFuncCalls
import Derived.RangeFuncLeaves
import Derived.Shelf.Abstract
import Derived.Shelf.RegionOpen
import Derived.WalkKit
import Derived.OwnWalkIn
import Derived.TacticsInMore
import Derived.LoopNIn
import Derived.LoopIn
import Derived.Test.YtdefgliogmlghaaDecodeG
import Derived.Maps.AppendAt
import Derived.Test.YtdefgliogmlghaaDecodeY
import Derived.Deep.Slices
section
namespace Go.Proofs.Ytdefgliogmlghaa.De
open Go.RowKit
open Th (Ins none0)
set_option linter.unusedVariables false

theorem len_cases (s : ByteArray) (h : err s = 0) : 2 ≤ len s ∧ len s ≤ s.size := by
  rcases err_cases s with ⟨_, h1, h2, _⟩ | h' | h'
  · have : len s = size s := by unfold len; rw [if_pos h]
    rw [this]
    rcases size_cases s with h3 | ⟨h3, _⟩ | ⟨h3, _⟩ <;> omega
  · rw [h] at h'; exact absurd h' (by decide)
  · rw [h] at h'; exact absurd h' (by decide)
theorem rest_size (s : ByteArray) (n : Nat) (h : n ≤ s.size) : (s.extract n s.size).size = s.size - n := by
  rw [ByteArray.size_extract]; omega
/-- what is handed over of bytes: instructions with their errors, up to the first that is one -/
def stepsF : Nat → ByteArray → List (Ins × Int)
  | 0, _ => []
  | n + 1, s => if s.size = 0 then [] else (ins s, err s) :: (if err s = 0 then stepsF n (s.extract (len s) s.size) else [])
theorem stepsF_succ (n : Nat) (s : ByteArray) : stepsF (n + 1) s = if s.size = 0 then [] else (ins s, err s) :: (if err s = 0 then stepsF n (s.extract (len s) s.size) else []) := rfl
theorem stepsF_more : ∀ n s, s.size ≤ n → stepsF (n + 1) s = stepsF n s := by
  intro n
  induction n with
  | zero => intro s h; rw [stepsF, stepsF, if_pos (by omega)]
  | succ n ih =>
    intro s h
    rw [stepsF_succ (n + 1) s, stepsF_succ n s]
    by_cases h0 : s.size = 0
    · rw [if_pos h0, if_pos h0]
    · rw [if_neg h0, if_neg h0]
      by_cases he : err s = 0
      · have hl := len_cases s he
        rw [if_pos he, if_pos he, ih _ (by rw [rest_size s _ hl.2]; omega)]
      · rw [if_neg he, if_neg he]
theorem stepsF_any (s : ByteArray) : ∀ n, s.size ≤ n → stepsF n s = stepsF s.size s := by
  intro n h
  induction n with
  | zero => rw [show s.size = 0 by omega]
  | succ n ih =>
    by_cases hn : s.size ≤ n
    · rw [stepsF_more n s hn, ih hn]
    · rw [show s.size = n + 1 by omega]
def steps (s : ByteArray) : List (Ins × Int) := stepsF s.size s
theorem steps_nil (s : ByteArray) (h : s.size = 0) : steps s = [] := by unfold steps; rw [h]; rfl
theorem steps_err (s : ByteArray) (h : ¬ s.size = 0) (he : ¬ err s = 0) : steps s = [(ins s, err s)] := by
  unfold steps
  obtain ⟨n, hn⟩ : ∃ n, s.size = n + 1 := ⟨s.size - 1, by omega⟩
  rw [hn, stepsF, if_neg h, if_neg he]
theorem steps_ok (s : ByteArray) (h : ¬ s.size = 0) (he : err s = 0) : steps s = (ins s, 0) :: steps (s.extract (len s) s.size) := by
  have hl := len_cases s he
  unfold steps
  rw [← stepsF_any (s.extract (len s) s.size) (s.size - 1) (by rw [rest_size s _ hl.2]; omega)]
  obtain ⟨n, hn⟩ : ∃ n, s.size = n + 1 := ⟨s.size - 1, by omega⟩
  rw [hn, stepsF, if_neg h, if_pos he, he, hn, Nat.add_sub_cancel]
def errs : List (Ins × Int) → Int
  | [] => 0
  | x :: l => if x.2 = 0 then errs l else x.2
theorem errs_app (l m : List (Ins × Int)) (h : errs l = 0) : errs (l ++ m) = errs m := by
  induction l with
  | nil => rfl
  | cons x l ih =>
    rw [errs] at h
    by_cases hx : x.2 = 0
    · rw [if_pos hx] at h
      rw [List.cons_append, errs, if_pos hx, ih h]
    · rw [if_neg hx] at h
      exact absurd h hx
/-- how all bytes end, and what they are -/
def allE (s : ByteArray) : Int := errs (steps s)
def allL (s : ByteArray) : List Ins := if allE s = 0 then (steps s).map Prod.fst else []
theorem steps_len (s : ByteArray) : (steps s).length ≤ s.size := by
  have : ∀ n s, (stepsF n s).length ≤ n := by
    intro n
    induction n with
    | zero => intro s; exact Nat.le_refl 0
    | succ n ih =>
      intro s
      rw [stepsF]
      by_cases h0 : s.size = 0
      · rw [if_pos h0]; exact Nat.zero_le _
      · rw [if_neg h0, List.length_cons]
        by_cases he : err s = 0
        · rw [if_pos he]; exact Nat.succ_le_succ (ih _)
        · rw [if_neg he]; exact Nat.succ_le_succ (Nat.zero_le _)
  exact this _ _
end Go.Proofs.Ytdefgliogmlghaa.De
end
section
namespace Go.Proofs.Ytdefgliogmlghaa
open Go.ChangeShapes Go.WideShapes Go.ChangeAt Go.RowKit Go.Shelf
set_option linter.unusedVariables false
attribute [local go_sem] Oper.semAt_some

theorem grown_below {A B : World} (h : Below A.heap.size A B) : A.grownBy B none := ⟨h.os, h.tape, h.output, h.size, fun k hk _ => h.block k hk⟩
theorem decode_told (s : ByteArray) (op rd rn rm ra imm cond : Int) (wide : Bool) (n e : Int) (w : World) (hm : s.size ≤ maxLen) (h : Hid (Told s ⟨op, rd, rn, rm, ra, imm, cond, wide⟩ n e)) :
    Calls Try.prog 11 #[.string s] w fun r w' => r = .returned (.tuple #[.agg #[.int .i64 op, .int .i64 rd, .int .i64 rn, .int .i64 rm, .int .i64 ra, .int .i64 imm, .int .i64 cond, .bool wide], .int .i64 n, .int .i64 e]) ∧ Below w.heap.size w w' := decode_lit s op rd rn rm ra imm cond wide n e w hm h.out
abbrev stepV (x : Th.Ins × Int) : Array Value := #[insV x.1, .int .i64 x.2]
/-- what is left of the steps, behind those that have come -/
def Rest (s : ByteArray) (pre : List (Th.Ins × Int)) (r : ByteArray) : Prop := De.steps s = pre ++ De.steps r ∧ r.size ≤ maxLen
def lenS : Value → Nat | .string b => b.size | _ => 0
set_option maxRecDepth 100000 in
set_option maxHeartbeats 4000000 in
theorem each1_in (n l Bn : Nat) (s : ByteArray) (hm : s.size ≤ maxLen) (hn : 1 ≤ n) (B : Nat) (J Jx : List (Th.Ins × Int) → World → Prop) (hJ : AbidesFrom B J)
    (hY : ∀ pre x W, J pre W → pre.length < (De.steps s).length → YieldAt Fence.wide (n - 1) Try.prog l (stepV x) W fun e W' =>
      (e = .returned (.bool true) ∧ J (pre ++ [x]) W' ∧ True) ∨ (e = .returned (.bool false) ∧ Jx (pre ++ [x]) W'))
    (W : World) (hBn : W.cell? ⟨Bn, 0, none⟩ = some (.string s)) (h0 : J [] W) :
    CallsIn Fence.wide n Try.prog 63 #[.func (.yield l) #[] #[], .pointer (some ⟨Bn, 0, none⟩)] W fun e W' => (∃ v, e = .returned v) ∧
      ((∃ ys, ys = De.steps s ∧ J ys W') ∨ (∃ pre, pre <+: De.steps s ∧ Jx pre W')) := by
  refine callsIn_of_wp Try.func63 rfl trivial ?_ rfl
  simp only [Try.ntmps63, List.size_toArray, List.length_cons, List.length_nil, Nat.reduceAdd, Nat.reduceSub, Array.replicate_succ, Array.replicate_zero, List.push_toArray, List.append_toArray, List.nil_append, List.cons_append]
  gi_wp2
  gi_loopw [3] (fun p wr => ∃ (pre : List (Th.Ins × Int)) (r : ByteArray), p = .string r ∧ Rest s pre r ∧ J pre wr) (fun p _ => lenS p)
  case atStart => exact ⟨[], s, rfl, ⟨rfl, hm⟩, h0⟩
  case round =>
    obtain ⟨pre, r, rfl, hL, hJs⟩ := hrel
    by_cases hz : r.size = 0
    · have hzz : ¬ (0 : Int) < (r.size : Int) := by omega
      have HL := Lib.hid hL
      clear hL
      gi_wp2
      go_end0
      exact ⟨⟨_, rfl⟩, .inl (by rw [HL.out.1, De.steps_nil r hz, List.append_nil]; exact hJs)⟩
    · have hzz : (0 : Int) < (r.size : Int) := by omega
      rcases hI : De.ins r with ⟨op, rd, rn, rm, ra, imm, cond, wide⟩
      by_cases he : De.err r = 0
      · have hst := De.steps_ok r hz he
        rw [hI] at hst
        have hlen : pre.length < (De.steps s).length := by rw [hL.1, hst]; simp
        have hlc := De.len_cases r he
        obtain ⟨Ln, hLn⟩ : ∃ Ln, De.len r = Ln := ⟨_, rfl⟩
        rw [hLn] at hlc hst
        have HT : Hid (Told r ⟨op, rd, rn, rm, ra, imm, cond, wide⟩ (Ln : Int) 0) := Lib.hid ⟨hI, by rw [hLn], he⟩
        have HST := Lib.hid hst
        have HL := Lib.hid hL
        have hl1 : (0 : Int) ≤ (Ln : Int) := by omega
        have hl2 : (Ln : Int) ≤ (r.size : Int) := by omega
        have hl3 : Ln ≤ r.size := hlc.2
        have hl4 : 2 ≤ Ln := hlc.1
        clear hL hst hI he hLn hlc
        gi_wp2_with (refine ⟨trivial, ?_⟩; gi_at_call 11; refine (callsIn_wide.2 (decode_told _ _ _ _ _ _ _ _ _ _ _ _ HL.out.2 HT)).mono ?_; rintro e w1 ⟨rfl, hb1⟩; have hJ1 := hJ pre wr (w1.alloc (.cells #[.int .i64 op, .int .i64 rd, .int .i64 rn, .int .i64 rm, .int .i64 ra, .int .i64 imm, .int .i64 cond, .bool wide] 23)) none hJs (grown_below (hb1.alloc hb1.size _)) (fun r e => by cases e); obtain ⟨fn, tmps, assign, body, hy, hR⟩ := hY pre (⟨op, rd, rn, rm, ra, imm, cond, wide⟩, 0) _ hJ1 hlen; dsimp only [stepV, insV] at hy)
        refine hR.mono ?_
        rintro e W3 (⟨rfl, hJ3, -⟩ | ⟨rfl, hJx3⟩)
        · gi_wp2
          go_roundw
          case rel => exact ⟨_, _, rfl, ⟨by rw [HL.out.1, HST.out, List.append_assoc]; rfl, by have := HL.out.2; rw [De.rest_size r _ hl3]; omega⟩, hJ3⟩
          case measure => show (r.extract Ln r.size).size < r.size; rw [De.rest_size r _ hl3]; omega
        · gi_wp2
          refine bodyPost_ret (results_none rfl _ _ _) rfl ?_
          exact ⟨⟨_, rfl⟩, .inr ⟨_, ⟨De.steps (r.extract Ln r.size), by rw [HL.out.1, HST.out]; simp⟩, hJx3⟩⟩
      · have hst := De.steps_err r hz he
        rw [hI] at hst
        have hlen : pre.length < (De.steps s).length := by rw [hL.1, hst]; simp
        obtain ⟨E, hE⟩ : ∃ E, De.err r = E := ⟨_, rfl⟩
        rw [hE] at hst he
        have HT : Hid (Told r ⟨op, rd, rn, rm, ra, imm, cond, wide⟩ (De.len r : Int) E) := Lib.hid ⟨hI, rfl, hE⟩
        have HST := Lib.hid hst
        have HL := Lib.hid hL
        have hE1 : (E != 0) = true := by simpa using he
        clear hL hst hI hE
        gi_wp2_with (refine ⟨trivial, ?_⟩; gi_at_call 11; refine (callsIn_wide.2 (decode_told _ _ _ _ _ _ _ _ _ _ _ _ HL.out.2 HT)).mono ?_; rintro e w1 ⟨rfl, hb1⟩; have hJ1 := hJ pre wr (w1.alloc (.cells #[.int .i64 op, .int .i64 rd, .int .i64 rn, .int .i64 rm, .int .i64 ra, .int .i64 imm, .int .i64 cond, .bool wide] 23)) none hJs (grown_below (hb1.alloc hb1.size _)) (fun r e => by cases e); obtain ⟨fn, tmps, assign, body, hy, hR⟩ := hY pre (⟨op, rd, rn, rm, ra, imm, cond, wide⟩, E) _ hJ1 hlen; dsimp only [stepV, insV] at hy)
        refine hR.mono ?_
        rintro e W3 (⟨rfl, hJ3, -⟩ | ⟨rfl, hJx3⟩)
        · gi_wp2
          refine bodyPost_ret (results_none rfl _ _ _) rfl ?_
          exact ⟨⟨_, rfl⟩, .inl ⟨_, by rw [HL.out.1, HST.out], hJ3⟩⟩
        · gi_wp2
          refine bodyPost_ret (results_none rfl _ _ _) rfl ?_
          exact ⟨⟨_, rfl⟩, .inr ⟨_, ⟨[], by rw [HL.out.1, HST.out]; simp⟩, hJx3⟩⟩
set_option maxHeartbeats 1000000 in
theorem each_in (n : Nat) (s : ByteArray) (w : World) :
    CallsIn Fence.wide n Try.prog 34 #[.string s] w fun e w' => e = .returned (.func (.func 63) #[] #[.pointer (some ⟨w.heap.size, 0, none⟩)]) ∧ w' = w.alloc (.cells #[.string s] 9) := by
  refine callsIn_of_wp Try.func34 rfl trivial ?_ rfl
  simp only [Try.ntmps34, List.size_toArray, List.length_cons, List.length_nil, Nat.reduceAdd, Nat.reduceSub, Array.replicate_succ, Array.replicate_zero, List.push_toArray, List.append_toArray, List.nil_append, List.cons_append]
  gi_wp2
  go_ret
  exact ⟨rfl, rfl⟩
theorem each_stops (n : Nat) (hn : 1 ≤ n) (Bn : Nat) (s : ByteArray) (hm : s.size ≤ maxLen) (w : World) (hBn : Bn < w.heap.size) (hc : w.cell? ⟨Bn, 0, none⟩ = some (.string s)) :
    SeqStopsK Fence.wide n Try.prog 63 #[.pointer (some ⟨Bn, 0, none⟩)] stepV (fun _ _ => True) (fun ys => ys = De.steps s) (fun pre => pre <+: De.steps s) (De.steps s).length w := fun l J Jx W hW hJ _ hY h0 =>
  each1_in n l Bn s hm hn W.heap.size J Jx hJ hY W ((hW.cell (p := ⟨Bn, 0, none⟩) hBn).trans hc) h0
end Go.Proofs.Ytdefgliogmlghaa
end
section
namespace Go.Proofs.Ytdefgliogmlghaa
open Go.ChangeShapes Go.WideShapes Go.ChangeAt Go.RowKit Go.Shelf
set_option linter.unusedVariables false
attribute [local go_sem] Oper.semAt_some

/-- an instruction's cells -/
def insC (i : Th.Ins) : List Value := [.int .i64 i.op, .int .i64 i.rd, .int .i64 i.rn, .int .i64 i.rm, .int .i64 i.ra, .int .i64 i.imm, .int .i64 i.cond, .bool i.wide]
def insCs (l : List Th.Ins) : List Value := l.flatMap insC
theorem insCs_app (l : List Th.Ins) (i : Th.Ins) : insCs (l ++ [i]) = insCs l ++ insC i := by unfold insCs; simp
theorem insCs_len (l : List Th.Ins) : (insCs l).length = l.length * 8 := by
  induction l with
  | nil => rfl
  | cons i l ih => show (insC i ++ insCs l).length = _; rw [List.length_append, ih]; show 8 + _ = _; simp; omega
theorem errs_pre (l m : List (Th.Ins × Int)) (h : ¬ De.errs l = 0) : De.errs (l ++ m) = De.errs l := by
  induction l with
  | nil => exact absurd rfl h
  | cons x l ih =>
    rw [De.errs] at h
    rw [List.cons_append, De.errs, De.errs]
    by_cases hx : x.2 = 0
    · rw [if_pos hx] at h
      rw [if_pos hx, if_pos hx, ih h]
    · rw [if_neg hx, if_neg hx]
/-- block B is a struct's box -/
def BoxedS (W : World) (B : Nat) (i : Th.Ins) : Prop := W.heap[B]? = some (.cells (insC i).toArray 23 (0, 0))
theorem boxedS_own (B : Nat) (i : Th.Ins) : Own (fun (_ : Unit) W => BoxedS W B i) := fun s X Y row hs hg hrow => by
  have hs' : X.heap[B]? = _ := hs
  refine (hg.block B (Array.getElem?_eq_some_iff.1 hs').1 (fun e' => ?_)).trans hs'
  obtain ⟨o, ho, hc⟩ := hrow B e'.symm
  rw [hs'] at ho; cases ho; cases hc
theorem BoxedS.cells {W : World} {B : Nat} {op rd rn rm ra imm cond : Int} {wide : Bool} (h : BoxedS W B ⟨op, rd, rn, rm, ra, imm, cond, wide⟩) : InsAt W B op rd rn rm ra imm cond wide := by
  have h' : W.heap[B]? = some (.cells #[.int .i64 op, .int .i64 rd, .int .i64 rn, .int .i64 rm, .int .i64 ra, .int .i64 imm, .int .i64 cond, .bool wide] 23 (0, 0)) := h
  refine ⟨?_, ?_, ?_, ?_, ?_, ?_, ?_, ?_⟩ <;> simp [World.cell?, h']
theorem cell8_new (w : World) (i : Th.Ins) (t : TypeId) : ∀ j u, (insC i)[j]? = some u → (w.alloc (.cells #[.int .i64 i.op, .int .i64 i.rd, .int .i64 i.rn, .int .i64 i.rm, .int .i64 i.ra, .int .i64 i.imm, .int .i64 i.cond, .bool i.wide] t)).cell? ((⟨w.heap.size, 0, none⟩ : Addr).add j) = some u := by
  intro j u hj
  have hlt : j < 8 := by
    apply Nat.lt_of_not_le
    intro hge
    rw [List.getElem?_eq_none (by exact hge)] at hj
    cases hj
  rcases (by omega : j = 0 ∨ j = 1 ∨ j = 2 ∨ j = 3 ∨ j = 4 ∨ j = 5 ∨ j = 6 ∨ j = 7) with rfl | rfl | rfl | rfl | rfl | rfl | rfl | rfl <;> (simp [insC] at hj; subst hj; simp [go_sem, Addr.add])
theorem Try.infoIns : (Try.prog.info? 23).map (fun i => (i.zero, i.size, i.bytes)) = some (some (.agg #[.int .i64 0, .int .i64 0, .int .i64 0, .int .i64 0, .int .i64 0, .int .i64 0, .int .i64 0, .bool false]), 8, 64) := by kernel_rfl
set_option maxRecDepth 100000 in
set_option maxHeartbeats 8000000 in
theorem all_in (n : Nat) (hn : 3 ≤ n) (s : ByteArray) (hm : s.size ≤ 16777216) (w : World) :
    CallsIn Fence.wide n Try.prog 16 #[.string s] w fun e W' => ∃ v, e = .returned (.tuple #[v, .int .i64 (De.allE s)]) ∧ W'.ownsRow w.heap.size 23 8 v (De.allL s).length (insCs (De.allL s)) ∧ Below w.heap.size w W' := by
  have h1 : 1 ≤ n := by omega
  have hm' : s.size ≤ maxLen := by unfold maxLen; omega
  have hsl := De.steps_len s
  obtain ⟨i0, hi, hz0, hz1, hz2⟩ := info_parts Try.infoIns
  refine callsIn_of_wp_marks Try.func16 rfl trivial ?_ rfl
  simp only [Try.ntmps16, List.size_toArray, List.length_cons, List.length_nil, Nat.reduceAdd, Nat.reduceSub, Array.replicate_succ, Array.replicate_zero, List.push_toArray, List.append_toArray, List.nil_append, List.cons_append]
  gi_wp2_with (refine ⟨trivial, ?_⟩; gi_at_call 34; refine (each_in (n - 1) _ _).mono ?_; rintro e w' ⟨rfl, rfl⟩)
  obtain ⟨W0, hW0⟩ : ∃ W0, (((w.alloc (Obj.cells #[Value.slice none 0 0] 32)).alloc (Obj.cells #[Value.int IntKind.i64 0] 24)).alloc (Obj.cells #[Value.slice none 0 0] 32)).alloc (Obj.cells #[Value.string s] 9) = W0 := ⟨_, rfl⟩
  have hsz : W0.heap.size = w.heap.size + 4 := by rw [← hW0]; simp
  have b0 : Boxed W0 w.heap.size 32 (.slice none 0 0) := by
    rw [← hW0]; exact (((Boxed.new w _ _).alloc _).alloc _).alloc _
  have b1 : Boxed W0 (w.heap.size + 1) 24 (.int .i64 0) := by
    have h := Boxed.new (w.alloc (Obj.cells #[Value.slice none 0 0] 32)) 24 (.int .i64 0)
    rw [World.size_alloc] at h
    rw [← hW0]; exact (h.alloc _).alloc _
  have b2 : Boxed W0 (w.heap.size + 1 + 1) 32 (.slice none 0 0) := by
    have h := Boxed.new ((w.alloc (Obj.cells #[Value.slice none 0 0] 32)).alloc (Obj.cells #[Value.int IntKind.i64 0] 24)) 32 (.slice none 0 0)
    rw [World.size_alloc, World.size_alloc] at h
    rw [← hW0]; exact h.alloc _
  have b3 : Boxed W0 (w.heap.size + 1 + 1 + 1) 9 (.string s) := by
    have h := Boxed.new (((w.alloc (Obj.cells #[Value.slice none 0 0] 32)).alloc (Obj.cells #[Value.int IntKind.i64 0] 24)).alloc (Obj.cells #[Value.slice none 0 0] 32)) 9 (.string s)
    rw [World.size_alloc, World.size_alloc, World.size_alloc] at h
    rw [← hW0]; exact h
  have hB0 : Below w.heap.size w W0 := by
    rw [← hW0]; exact ((((Below.refl _ w).alloc (Nat.le_refl _) _).alloc (by simp) _).alloc (by simp; omega) _).alloc (by simp; omega) _
  rw [hW0]
  clear hW0
  refine wpIn_rangeFunc_ownH rfl h1 (gf := 63) (lb := #[.pointer (some ⟨w.heap.size + 1 + 1 + 1, 0, none⟩)]) rfl trivial (enters_of Try.func63 (by kernel_rfl) rfl)
    (each_stops (n - 1) (by omega) (w.heap.size + 1 + 1 + 1) s hm' W0 b3.lt b3.cell) (fun _ _ => trivial) (fun _ _ _ _ _ _ _ _ => trivial) (Below.refl _ _) (fun _ => rfl)
    (fun (pre : List (Th.Ins × Int)) W => (((∃ v, Boxed W (w.heap.size + 1 + 1) 32 v ∧ W.ownsRow w.heap.size 23 8 v pre.length (insCs (pre.map Prod.fst)) ∧ True) ∧ Boxed W w.heap.size 32 (.slice none 0 0)) ∧ Boxed W (w.heap.size + 1) 24 (.int .i64 0)) ∧ De.errs pre = 0 ∧ Below w.heap.size w W)
    (fun c (pre : List (Th.Ins × Int)) W => ((c = .ret ∧ ¬ De.errs pre = 0) ∧ Boxed W w.heap.size 32 (.slice none 0 0)) ∧ Boxed W (w.heap.size + 1) 24 (.int .i64 (De.errs pre)) ∧ Below w.heap.size w W)
    (OwnFrom.and (OwnFrom.and (OwnFrom.and (Own.from (holdsRow_own w.heap.size (w.heap.size + 1 + 1) 32 23 8 (fun (pre : List (Th.Ins × Int)) => pre.length) (fun (pre : List (Th.Ins × Int)) => insCs (pre.map Prod.fst)) (fun _ _ => True)) _) (Own.from (boxed_own _ _ _) _)) (Own.from (boxed_own _ _ _) _)) (OwnFrom.and (ownFrom_pure _ _) (ownFrom_below (Nat.le_refl _) (by omega))))
    (fun c => OwnFrom.and (OwnFrom.and (ownFrom_pure _ _) (Own.from (boxed_own _ _ _) _)) (OwnFrom.and (Own.from (boxed_own _ _ _) _) (ownFrom_below (Nat.le_refl _) (by omega))))
    ⟨⟨⟨⟨_, b2, World.ownsRow_nil _ _ _ _, trivial⟩, b0⟩, b1⟩, rfl, hB0⟩
    (fun (x : Th.Ins × Int) a' W => ∃ Bx, BoxedS W Bx x.1 ∧ a' = { tmps := #[.string s, undef, .pointer (some ⟨w.heap.size, 0, none⟩), .pointer (some ⟨w.heap.size + 1, 0, none⟩), .pointer (some ⟨w.heap.size + 1 + 1, 0, none⟩), .pointer (some ⟨Bx, 0, none⟩), .int .i64 x.2, .string s, .func (.func 63) #[] #[.pointer (some ⟨w.heap.size + 1 + 1 + 1, 0, none⟩)], insV x.1, .int .i64 x.2, undef, undef, undef, undef, undef, undef, undef, undef], defers := [] })
    (fun x a' _ X Y row hs hg hr => by obtain ⟨Bx, h, e⟩ := hs; exact ⟨Bx, boxedS_own Bx x.1 () X Y row h hg (fun r e => (hr r e).2), e⟩)
    ?assign ?body ?done ?stop
  case assign =>
    rintro l pre ⟨⟨op, rd, rn, rm, ra, imm, cond, wide⟩, E⟩ W K ⟨⟨⟨⟨v, hv, hrow, -⟩, h0⟩, h2⟩, he, hB⟩ hK
    gi_wp2
    exact hK _ _ ((KeepsOthers.alloc _ _).from _) trivial ⟨⟨⟨⟨v, hv.alloc _, hrow.alloc _, trivial⟩, h0.alloc _⟩, h2.alloc _⟩, he, hB.alloc hB.size _⟩ ⟨W.heap.size, World.alloc_heap_new W _, rfl⟩
  case body =>
    rintro l pre ⟨⟨op, rd, rn, rm, ra, imm, cond, wide⟩, E⟩ a' W hl hr ⟨⟨⟨⟨v, hv, hrow, -⟩, h0⟩, h2⟩, he, hB⟩ ⟨Bx, hS, rfl⟩ hlt
    by_cases hE : E = 0
    · subst hE
      have hc := hv.cell
      obtain ⟨i0', i1', i2', i3', i4', i5', i6', i7'⟩ := hS.cells
      gi_wp2_with (gi_at_builtin; refine wpListIn_append_own _ rfl _ _ 32 rfl w.heap.size 23 i0 (.agg #[.int .i64 0, .int .i64 0, .int .i64 0, .int .i64 0, .int .i64 0, .int .i64 0, .int .i64 0, .bool false]) 8 64 Try.underlying32 hi hz0 hz1 hz2 rfl (by decide) _ _ _ rfl (hrow.alloc _) ⟨W.heap.size, 0, none⟩ 1 1 (insC ⟨op, rd, rn, rm, ra, imm, cond, wide⟩) rfl rfl (cell8_new _ _ _) (by simp [insC, Value.oneCell']) (by unfold maxLen; omega) (by omega) (by have := hB.size; simp; omega) ?_; intro v' w1 hown' hgrow _; obtain ⟨g', cap', rfl⟩ := ownsRow_succ hown'; obtain ⟨hv1, hv2, hr2, hk2, hb2⟩ := hv.appended (by decide) hrow hB.size (by omega) hown' hgrow; have h0w := (h0.alloc _).kept hgrow (h0.not_row (by decide) hrow); have h2w := (h2.alloc _).kept hgrow (h2.not_row (by decide) hrow); have hc1 := hv1.cell; have hf1 := hv1.frozen)
      have e1 : (pre ++ [((⟨op, rd, rn, rm, ra, imm, cond, wide⟩ : Th.Ins), (0 : Int))]).length = pre.length + 1 := by simp
      have e2 : insCs ((pre ++ [((⟨op, rd, rn, rm, ra, imm, cond, wide⟩ : Th.Ins), (0 : Int))]).map Prod.fst) = insCs (pre.map Prod.fst) ++ insC ⟨op, rd, rn, rm, ra, imm, cond, wide⟩ := by rw [List.map_append]; exact insCs_app _ _
      exact ⟨hk2.from _, trivial, ⟨⟨⟨_, hv2, by rw [e1, e2]; exact hr2⟩, h0w.other (by omega) _⟩, h2w.other (by omega) _⟩, by rw [De.errs_app _ _ he]; rfl, hB.trans hb2⟩
    · have hE1 : (E != 0) = true := by simpa using hE
      have c0 := h0.cell
      have f0 := h0.frozen
      have c2 := h2.cell
      have f2 := h2.frozen
      gi_wp2
      have hee : De.errs (pre ++ [((⟨op, rd, rn, rm, ra, imm, cond, wide⟩ : Th.Ins), E)]) = E := by rw [De.errs_app _ _ he]; exact if_neg hE
      exact ⟨((KeepsOthers.setCell _ _ _).trans (KeepsOthers.setCell _ _ _)).from _, ⟨⟨rfl, by rw [hee]; exact hE⟩, (h0.set _).other (by omega) _⟩, by rw [hee]; exact (h2.other (by omega) _).set _, (hB.setCell (p := ⟨w.heap.size, 0, none⟩) (Nat.le_refl _) _).setCell (p := ⟨w.heap.size + 1, 0, none⟩) (by simp) _⟩
  case done =>
    rintro D ys W hD rfl ⟨⟨⟨⟨v, hv, hrow, -⟩, h0⟩, h2⟩, he, hB⟩ hK
    obtain ⟨q, m, c, rfl⟩ : ∃ q m c, v = .slice q m c := by
      rcases hrow.2 with ⟨rfl, _⟩ | ⟨g, cap, cur, rfl, _⟩ <;> exact ⟨_, _, _, rfl⟩
    have c0 := h0.cell
    have f0 := h0.frozen
    have c2 := h2.cell
    have f2 := h2.frozen
    have cv := hv.cell
    gi_wp2
    obtain ⟨W1, hW1⟩ : ∃ W1, (W.setCell ⟨w.heap.size, 0, none⟩ (.slice q m c)).setCell ⟨w.heap.size + 1, 0, none⟩ (.int .i64 0) = W1 := ⟨_, rfl⟩
    have hK1 : W1.heap[D]? = some (.deferred (some [])) := by rw [← hW1]; exact (KeepsOthers.setCell _ _ _).same D _ ((KeepsOthers.setCell _ _ _).same D _ hK rfl) rfl
    have B0 : Boxed W1 w.heap.size 32 (.slice q m c) := by rw [← hW1]; exact (h0.set _).other (by omega) _
    have B1 : Boxed W1 (w.heap.size + 1) 24 (.int .i64 0) := by rw [← hW1]; exact (h2.other (by omega) _).set _
    have hR1 : W1.ownsRow w.heap.size 23 8 (.slice q m c) (De.steps s).length (insCs ((De.steps s).map Prod.fst)) := by
      rw [← hW1]
      exact (hrow.kept (grownBy_setCell' _ _ _) (.inr (h0.not_row (by decide) hrow).symm)).kept (grownBy_setCell' _ _ _) (.inr (h2.not_row (by decide) hrow).symm)
    have hB1 : Below w.heap.size w W1 := by rw [← hW1]; exact (hB.setCell (p := ⟨w.heap.size, 0, none⟩) (Nat.le_refl _) _).setCell (p := ⟨w.heap.size + 1, 0, none⟩) (by simp) _
    rw [hW1]
    have c0' := (B0.kept (grownBy_putObj' W1 D (.deferred none)) (fun e => by cases e; omega)).cell
    have c1' := (B1.kept (grownBy_putObj' W1 D (.deferred none)) (fun e => by cases e; omega)).cell
    have eA : De.allE s = 0 := he
    have eL : De.allL s = (De.steps s).map Prod.fst := if_pos eA
    rw [eA, eL, List.length_map]
    refine ⟨by simp, .inl ⟨_, _, rfl, run_takeDeferred hK1, ?_⟩⟩
    exact ⟨.tuple #[.slice q m c, .int .i64 0], by simp [results, Try.results16, go_sem, c0', c1'], _, rfl, ownsRow_putObj hR1 _ hK1 rfl, hB1.trans (belowK_b (w := w) (Nat.le_refl _) W1 D _ _ (by omega) hK1 rfl rfl)⟩
  case stop =>
    rintro D c pre W hD hpre ⟨⟨⟨rfl, hne⟩, h0⟩, h2, hB⟩ hK
    have c0 := h0.cell
    have c2 := h2.cell
    gi_wp2
    obtain ⟨rest, hrest⟩ := hpre
    have eA : De.allE s = De.errs pre := by unfold De.allE; rw [← hrest]; exact errs_pre _ _ hne
    have eL : De.allL s = [] := if_neg (by rw [eA]; exact hne)
    have c0' := (h0.kept (grownBy_putObj' W D (.deferred none)) (fun e => by cases e; omega)).cell
    have c1' := (h2.kept (grownBy_putObj' W D (.deferred none)) (fun e => by cases e; omega)).cell
    rw [eA, eL]
    refine ⟨by simp, .inl ⟨_, _, rfl, run_takeDeferred hK, ?_⟩⟩
    exact ⟨.tuple #[.slice none 0 0, .int .i64 (De.errs pre)], by simp [results, Try.results16, go_sem, c0', c1'], _, rfl, World.ownsRow_nil _ _ _ _, hB.trans (belowK_b (w := w) (Nat.le_refl _) W D _ _ (by omega) hK rfl rfl)⟩
end Go.Proofs.Ytdefgliogmlghaa
end
section
namespace Go.Proofs.Ytdefgliogmlghaa
open Go.ChangeShapes Go.WideShapes Go.ChangeAt Go.RowKit
set_option linter.unusedVariables false

theorem all_any (s : ByteArray) (hm : s.size ≤ 16777216) (w : World) :
    Calls Try.prog 16 #[.string s] w fun e W' => ∃ v, e = .returned (.tuple #[v, .int .i64 (De.allE s)]) ∧ W'.ownsRow w.heap.size 23 8 v (De.allL s).length (insCs (De.allL s)) ∧ Below w.heap.size w W' := callsIn_wide.1 (all_in 3 (Nat.le_refl 3) s hm w)
theorem rdecode_told (s : ByteArray) (op rd rn rm ra imm cond : Int) (wide : Bool) (n e : Int) (w : World) (hm : s.size ≤ maxLen) (h : Hid (Told s ⟨op, rd, rn, rm, ra, imm, cond, wide⟩ n e)) :
    Calls Try.prog 12 #[.string s] w fun r w' => r = .returned (.tuple #[.agg #[.int .i64 op, .int .i64 rd, .int .i64 rn, .int .i64 rm, .int .i64 ra, .int .i64 imm, .int .i64 cond, .bool wide], .int .i64 n, .int .i64 e]) ∧ Below w.heap.size w w' := by
  have := rdecode_any s w hm
  rw [h.out.1, h.out.2.1, h.out.2.2] at this
  exact this
/-- what is left of the steps, behind those that have come, from a place on -/
def From (s : ByteArray) (pre : List (Th.Ins × Int)) (k : Nat) : Prop := De.steps s = pre ++ De.steps (s.extract k s.size) ∧ De.errs pre = 0 ∧ pre.length ≤ k
theorem ext_ext (s : ByteArray) (k n : Nat) (h : k + n ≤ s.size) : (s.extract k s.size).extract n (s.extract k s.size).size = s.extract (k + n) s.size := by
  rw [ByteArray.extract_extract, De.rest_size s k (by omega)]
  congr 1
  omega
theorem ext_all (s : ByteArray) : s.extract 0 s.size = s := by simp
theorem own_ge {W : World} {base : Nat} {e : TypeId} {size : Nat} {v : Value} {n : Nat} {xs : List Value} (h : W.ownsRow base e size v n xs) : ∀ j, v.ownBlock = some j → base ≤ j := by
  intro j ej
  rcases h.2 with ⟨rfl, _⟩ | ⟨g, cap, cur, rfl, hb, _⟩
  · simp [Value.ownBlock] at ej
  · obtain rfl : g = j := by simpa [Value.ownBlock] using ej
    exact hb
set_option maxRecDepth 100000 in
set_option maxHeartbeats 8000000 in
theorem rall_any (s : ByteArray) (hm : s.size ≤ 16777216) (w : World) :
    Calls Try.prog 17 #[.string s] w fun e W' => ∃ v, e = .returned (.tuple #[v, .int .i64 (De.allE s)]) ∧ W'.ownsRow w.heap.size 23 8 v (De.allL s).length (insCs (De.allL s)) ∧ Below w.heap.size w W' := by
  obtain ⟨i0, hi, hz0, hz1, hz2⟩ := info_parts Try.infoIns
  generalize hAE : De.allE s = AE
  generalize hAL : De.allL s = AL
  have HAE := Lib.hid hAE
  have HAL := Lib.hid hAL
  clear hAE hAL
  go_enter Try.func17, Try.ntmps17
  go_wp2
  go_loopw [4, 5] (fun O A wr => ∃ (pre : List (Th.Ins × Int)) (k : Nat), A = .int .i64 (k : Int) ∧ k ≤ s.size ∧ From s pre k ∧ wr.ownsRow w.heap.size 23 8 O pre.length (insCs (pre.map Prod.fst)) ∧ Below w.heap.size w wr) (fun _ A _ => s.size - (intOf A).toNat)
  case atStart => exact ⟨[], 0, rfl, Nat.zero_le _, ⟨by rw [ext_all]; rfl, rfl, Nat.le_refl _⟩, World.ownsRow_nil _ _ _ _, Below.refl _ _⟩
  case round =>
    obtain ⟨pre, k, rfl, hk, hF, hrow, hB⟩ := hrel
    by_cases hlt : k < s.size
    · have hrz := De.rest_size s k hk
      obtain ⟨R, hR⟩ : ∃ R, s.extract k s.size = R := ⟨_, rfl⟩
      rw [hR] at hrz
      have hz : ¬ R.size = 0 := by omega
      have hmR : R.size ≤ maxLen := by unfold maxLen; omega
      rcases hI : De.ins R with ⟨op, rd, rn, rm, ra, imm, cond, wide⟩
      by_cases he : De.err R = 0
      · have hst := De.steps_ok R hz he
        rw [hI] at hst
        have hlc := De.len_cases R he
        obtain ⟨Ln, hLn⟩ : ∃ Ln, De.len R = Ln := ⟨_, rfl⟩
        rw [hLn] at hlc hst
        have HT : Hid (Told R ⟨op, rd, rn, rm, ra, imm, cond, wide⟩ (Ln : Int) 0) := Lib.hid ⟨hI, by rw [hLn], he⟩
        have HF : Hid (From s (pre ++ [(⟨op, rd, rn, rm, ra, imm, cond, wide⟩, 0)]) (k + Ln)) := Lib.hid (by
          obtain ⟨f1, f2, f3⟩ := hF
          refine ⟨?_, by rw [De.errs_app _ _ f2]; rfl, by rw [List.length_append]; simp; omega⟩
          rw [f1, hR, hst, ← ext_ext s k Ln (by omega), hR, List.append_assoc]; rfl)
        have hpl : pre.length ≤ k := hF.2.2
        have hmR' := Lib.hid hmR
        have hR' := Lib.hid hR
        have hb1 : k + Ln ≤ s.size := by omega
        have hl4 : 2 ≤ Ln := hlc.1
        clear hF hst hI he hLn hlc hmR hrz
        go_wp2_with (first | (go_at_call 12; refine (rdecode_told _ _ _ _ _ _ _ _ _ _ _ _ hmR'.out HT).mono ?_; rintro e w1 ⟨rfl, hbl1⟩; have hB1 := hB.trans (hbl1.mono hB.size); have hrow1 := hrow.kept (grown_below hbl1) (Classical.em _); have hB2 := hB1.alloc hB1.size (.cells #[.int .i64 op, .int .i64 rd, .int .i64 rn, .int .i64 rm, .int .i64 ra, .int .i64 imm, .int .i64 cond, .bool wide] 23); have hrow2 := hrow1.alloc (.cells #[.int .i64 op, .int .i64 rd, .int .i64 rn, .int .i64 rm, .int .i64 ra, .int .i64 imm, .int .i64 cond, .bool wide] 23)) | (at_builtin; refine wpList_append_own _ rfl _ _ 32 rfl w.heap.size 23 i0 (.agg #[.int .i64 0, .int .i64 0, .int .i64 0, .int .i64 0, .int .i64 0, .int .i64 0, .int .i64 0, .bool false]) 8 64 Try.underlying32 hi hz0 hz1 hz2 rfl (by decide) _ _ _ rfl (hrow2.alloc _) ⟨w1.heap.size + 1, 0, none⟩ 1 1 (insC ⟨op, rd, rn, rm, ra, imm, cond, wide⟩) rfl rfl (by have := cell8_new (w1.alloc (.cells #[.int .i64 op, .int .i64 rd, .int .i64 rn, .int .i64 rm, .int .i64 ra, .int .i64 imm, .int .i64 cond, .bool wide] 23)) ⟨op, rd, rn, rm, ra, imm, cond, wide⟩ 23; rw [World.size_alloc] at this; exact this) (by simp [insC, Value.oneCell']) (by unfold maxLen; omega) (by omega) (by have := hB2.size; simp at this ⊢; omega) ?_; intro v' w3 hown' hgrow3 hnil3))
        have e1 : (pre ++ [((⟨op, rd, rn, rm, ra, imm, cond, wide⟩ : Th.Ins), (0 : Int))]).length = pre.length + 1 := by simp
        have e2 : insCs ((pre ++ [((⟨op, rd, rn, rm, ra, imm, cond, wide⟩ : Th.Ins), (0 : Int))]).map Prod.fst) = insCs (pre.map Prod.fst) ++ insC ⟨op, rd, rn, rm, ra, imm, cond, wide⟩ := by rw [List.map_append]; exact insCs_app _ _
        refine ⟨⟨_, k + Ln, by simp, hb1, HF.out, by rw [e1, e2]; exact hown', (hB2.alloc hB2.size _).grown hgrow3 (by have := hB2.size; simp at this ⊢; omega) (own_ge hrow)⟩, by simp [intOf]; omega⟩
      · have hst := De.steps_err R hz he
        rw [hI] at hst
        obtain ⟨E, hE⟩ : ∃ E, De.err R = E := ⟨_, rfl⟩
        rw [hE] at hst he
        have HT : Hid (Told R ⟨op, rd, rn, rm, ra, imm, cond, wide⟩ (De.len R : Int) E) := Lib.hid ⟨hI, rfl, hE⟩
        have hA : De.allE s = E := by
          unfold De.allE
          rw [hF.1, De.errs_app _ _ hF.2.1, hR, hst]
          exact if_neg he
        have hL : De.allL s = [] := if_neg (by rw [hA]; exact he)
        have hE1 : (E != 0) = true := by simpa using he
        have hmR' := Lib.hid hmR
        obtain rfl := hA.symm.trans HAE.out
        obtain rfl := hL.symm.trans HAL.out
        clear hF hst hI hmR hrz hA hL hE
        go_wp2_with (go_at_call 12; refine (rdecode_told _ _ _ _ _ _ _ _ _ _ _ _ hmR'.out HT).mono ?_; rintro e w1 ⟨rfl, hbl1⟩)
        go_ret2
        exact ⟨_, rfl, World.ownsRow_nil _ _ _ _, (hB.trans (hbl1.mono hB.size)).alloc (Nat.le_trans hB.size hbl1.size) _⟩
    · obtain rfl : k = s.size := by omega
      have hA : De.steps s = pre := by
        rw [hF.1, De.steps_nil _ (by rw [De.rest_size s _ (Nat.le_refl _)]; omega), List.append_nil]
      have hE : De.allE s = 0 := by unfold De.allE; rw [hA]; exact hF.2.1
      have hL : De.allL s = pre.map Prod.fst := by unfold De.allL; rw [if_pos hE, hA]
      obtain rfl := hE.symm.trans HAE.out
      obtain rfl := hL.symm.trans HAL.out
      clear hA hE hL hF
      go_wp2
      go_ret2
      exact ⟨_, rfl, by rw [List.length_map]; exact hrow, hB⟩
end Go.Proofs.Ytdefgliogmlghaa
end
section
namespace Go.Proofs.Ytdefgliogmlghaa
open Go.ChangeShapes Go.WideShapes Go.ChangeAt Go.RowKit
set_option linter.unusedVariables false

/-- an instruction's cells from an address on -/
def InsOn (W : World) (a : Addr) (i : Th.Ins) : Prop := ∀ j u, (insC i)[j]? = some u → W.cell? (a.add j) = some u
/-- a slice's instructions -/
def SliceAt (W : World) (v : Value) (L : List Th.Ins) : Prop :=
  ∃ (p : Option Addr) (cap : Nat), v = .slice p L.length cap ∧ ∀ k (hk : k < L.length), ∃ a, p = some a ∧ InsOn W (a.add (k * 8)) L[k]
theorem add_zero' (a : Addr) : a.add 0 = a := by unfold Addr.add; split <;> simp_all
theorem run_load8 (W : World) (a : Addr) (i : Th.Ins) (h : InsOn W a i) : (loadVar 23 a).run Try.prog W = .ok (insV i) W := by
  have hl : (loadCells a 8).run Try.prog W = .ok (insC i).toArray W := run_loadCells_list (P := Try.prog) W a (insC i) h
  obtain ⟨i0, hi, hz0, hz1, hz2⟩ := info_parts Try.infoIns
  have hagg : (isAgg 23).run Try.prog W = .ok true W := by
    unfold isAgg
    rw [Sem.run_bind, run_underlying Try.underlying23 W]
    rfl
  simp [loadVar, Sem.run_bind, hagg, sizeOf, typeInfo, hi, hz1, hl, insC]
set_option maxRecDepth 100000 in
set_option maxHeartbeats 8000000 in
theorem same_some (a b : Addr) (ca cb n : Nat) (L : List Th.Ins) (w : World) (hn : Hid (L.length = n)) (hm : n ≤ 16777216) (ha : Hid (∀ k (hk : k < L.length), InsOn w (a.add (k * 8)) L[k])) (hb : Hid (∀ k (hk : k < L.length), InsOn w (b.add (k * 8)) L[k])) :
    Calls Try.prog 18 #[.slice (some a) n ca, .slice (some b) n cb] w fun e w' => e = .returned (.bool true) ∧ Below w.heap.size w w' := by
  go_enter Try.func18, Try.ntmps18
  go_wp2
  go_loopw [5] (fun K wr => ∃ k : Nat, K = .int .i64 (k : Int) ∧ k ≤ n ∧ ∃ d, wr = w.drewN d) (fun K _ => n - (intOf K).toNat)
  case atStart => exact ⟨0, rfl, Nat.zero_le _, 0, rfl⟩
  case round =>
    obtain ⟨k, rfl, hk, d, rfl⟩ := hrel
    by_cases hlt : k < n
    · have hlt' : (k : Int) < (n : Int) := by omega
      have hk0 : (0 : Int) ≤ (k : Int) := by omega
      have hA := ha.out k (by rw [hn.out]; exact hlt)
      have hB := hb.out k (by rw [hn.out]; exact hlt)
      obtain ⟨⟨op, rd, rn, rm, ra, imm, cond, wide⟩, hi⟩ : ∃ i, L[k]'(by rw [hn.out]; exact hlt) = i := ⟨_, rfl⟩
      rw [hi] at hA hB
      have a0 : w.cell? (a.add (k * 8)) = some (.int .i64 op) := by have h := hA 0 _ rfl; rw [add_zero'] at h; exact h
      have a1 : w.cell? ⟨(a.add (k * 8)).block, (a.add (k * 8)).off + 1, none⟩ = some (.int .i64 rd) := hA 1 _ rfl
      have a2 : w.cell? ⟨(a.add (k * 8)).block, (a.add (k * 8)).off + 2, none⟩ = some (.int .i64 rn) := hA 2 _ rfl
      have a3 : w.cell? ⟨(a.add (k * 8)).block, (a.add (k * 8)).off + 3, none⟩ = some (.int .i64 rm) := hA 3 _ rfl
      have a4 : w.cell? ⟨(a.add (k * 8)).block, (a.add (k * 8)).off + 4, none⟩ = some (.int .i64 ra) := hA 4 _ rfl
      have a5 : w.cell? ⟨(a.add (k * 8)).block, (a.add (k * 8)).off + 5, none⟩ = some (.int .i64 imm) := hA 5 _ rfl
      have a6 : w.cell? ⟨(a.add (k * 8)).block, (a.add (k * 8)).off + 6, none⟩ = some (.int .i64 cond) := hA 6 _ rfl
      have a7 : w.cell? ⟨(a.add (k * 8)).block, (a.add (k * 8)).off + 7, none⟩ = some (.bool wide) := hA 7 _ rfl
      have b0 : w.cell? (b.add (k * 8)) = some (.int .i64 op) := by have h := hB 0 _ rfl; rw [add_zero'] at h; exact h
      have b1 : w.cell? ⟨(b.add (k * 8)).block, (b.add (k * 8)).off + 1, none⟩ = some (.int .i64 rd) := hB 1 _ rfl
      have b2 : w.cell? ⟨(b.add (k * 8)).block, (b.add (k * 8)).off + 2, none⟩ = some (.int .i64 rn) := hB 2 _ rfl
      have b3 : w.cell? ⟨(b.add (k * 8)).block, (b.add (k * 8)).off + 3, none⟩ = some (.int .i64 rm) := hB 3 _ rfl
      have b4 : w.cell? ⟨(b.add (k * 8)).block, (b.add (k * 8)).off + 4, none⟩ = some (.int .i64 ra) := hB 4 _ rfl
      have b5 : w.cell? ⟨(b.add (k * 8)).block, (b.add (k * 8)).off + 5, none⟩ = some (.int .i64 imm) := hB 5 _ rfl
      have b6 : w.cell? ⟨(b.add (k * 8)).block, (b.add (k * 8)).off + 6, none⟩ = some (.int .i64 cond) := hB 6 _ rfl
      have b7 : w.cell? ⟨(b.add (k * 8)).block, (b.add (k * 8)).off + 7, none⟩ = some (.bool wide) := hB 7 _ rfl
      clear hA hB hi
      go_wp2
      go_quiet (fail)
      go_wp2
      exact ⟨⟨k + 1, by simp, by omega, d + nq, rfl⟩, by simp [intOf]; omega⟩
    · have hge : ¬ (k : Int) < (n : Int) := by omega
      go_wp2
      go_ret
      exact ⟨rfl, below_drewN (Below.refl _ _) _⟩
set_option maxHeartbeats 4000000 in
theorem same_none (p q : Option Addr) (ca cb : Nat) (w : World) :
    Calls Try.prog 18 #[.slice p 0 ca, .slice q 0 cb] w fun e w' => e = .returned (.bool true) ∧ Below w.heap.size w w' := by
  go_enter Try.func18, Try.ntmps18
  go_wp2
  go_loopw [5] (fun K wr => K = .int .i64 0 ∧ wr = w) (fun K _ => 0)
  case atStart => exact ⟨rfl, rfl⟩
  case round =>
    obtain ⟨rfl, rfl⟩ := hrel
    go_wp2
    go_ret
    exact ⟨rfl, Below.refl _ _⟩
/-- slices of the same instructions are the same -/
theorem same_any (va vb : Value) (L : List Th.Ins) (w : World) (hm : L.length ≤ 16777216) (ha : SliceAt w va L) (hb : SliceAt w vb L) :
    Calls Try.prog 18 #[va, vb] w fun e w' => e = .returned (.bool true) ∧ Below w.heap.size w w' := by
  obtain ⟨p, ca, rfl, hp⟩ := ha
  obtain ⟨q, cb, rfl, hq⟩ := hb
  by_cases h0 : L.length = 0
  · rw [h0]; exact same_none p q ca cb w
  · obtain ⟨a, rfl, -⟩ := hp 0 (by omega)
    obtain ⟨b, rfl, -⟩ := hq 0 (by omega)
    refine same_some a b ca cb L.length L w (Lib.hid rfl) hm (Lib.hid fun k hk => ?_) (Lib.hid fun k hk => ?_)
    · obtain ⟨a', e, h⟩ := hp k hk
      obtain rfl := Option.some.inj e
      exact h
    · obtain ⟨a', e, h⟩ := hq k hk
      obtain rfl := Option.some.inj e
      exact h
theorem insCs_get (L : List Th.Ins) : ∀ k (hk : k < L.length) j u, (insC L[k])[j]? = some u → (insCs L)[k * 8 + j]? = some u := by
  induction L with
  | nil => intro k hk; exact absurd hk (Nat.not_lt_zero _)
  | cons i L ih =>
    intro k hk j u hj
    have hj8 : j < 8 := by
      apply Nat.lt_of_not_le
      intro hge
      rw [List.getElem?_eq_none (by exact hge)] at hj
      cases hj
    show (insC i ++ insCs L)[k * 8 + j]? = some u
    cases k with
    | zero => rw [List.getElem?_append_left (by show _ < 8; omega)]; simpa using hj
    | succ k =>
      rw [List.getElem?_append_right (by show 8 ≤ _; omega)]
      have e : (k + 1) * 8 + j - (insC i).length = k * 8 + j := by show _ - 8 = _; omega
      rw [e]
      exact ih k (by simpa using hk) j u (by simpa using hj)
/-- an owned row is a slice of its instructions -/
theorem slice_own {W : World} {base : Nat} {v : Value} {L : List Th.Ins} (h : W.ownsRow base 23 8 v L.length (insCs L)) : SliceAt W v L := by
  rcases h.2 with ⟨rfl, h0⟩ | ⟨g, cap, cur, rfl, hb, hg, hc, hm, hs, ht⟩
  · exact ⟨none, 0, by rw [h0], fun k hk => by omega⟩
  · refine ⟨some ⟨g, 0, none⟩, cap, rfl, fun k hk => ⟨_, rfl, fun j u hj => ?_⟩⟩
    have h1 := insCs_get L k hk j u hj
    have hadd : (((⟨g, 0, none⟩ : Addr).add (k * 8)).add j) = ⟨g, k * 8 + j, none⟩ := by
      rw [Go.Deep.add_add]
      unfold Addr.add
      split <;> simp_all
    rw [hadd]
    simp only [World.cell?, hg]
    rw [← ht] at h1
    have h2 : cur.toList[k * 8 + j]? = some u := by
      rw [List.getElem?_take] at h1
      split at h1
      · exact h1
      · cases h1
    simpa using h2
theorem SliceAt.below {W W' : World} {v : Value} {L : List Th.Ins} {B : Nat} (h : SliceAt W v L) (hb : Below B W W') (hv : ∀ a n c, v = .slice (some a) n c → a.block < B) : SliceAt W' v L := by
  obtain ⟨p, cap, rfl, hc⟩ := h
  refine ⟨p, cap, rfl, fun k hk => ?_⟩
  obtain ⟨a, rfl, hi⟩ := hc k hk
  refine ⟨a, rfl, fun j u hj => ?_⟩
  rw [hb.cell (p := (a.add (k * 8)).add j) (by rw [Go.Deep.add_add]; have := hv a _ _ rfl; unfold Addr.add; split <;> exact this)]
  exact hi j u hj
theorem cell_lt {w : World} {a : Addr} {u : Value} (h : w.cell? a = some u) : a.block < w.heap.size := by
  apply Nat.lt_of_not_le
  intro hge
  simp [World.cell?, Array.getElem?_eq_none hge] at h
theorem SliceAt.kept {W W' : World} {v : Value} {L : List Th.Ins} (h : SliceAt W v L) (hb : Below W.heap.size W W') : SliceAt W' v L := by
  obtain ⟨p, cap, rfl, hc⟩ := h
  refine ⟨p, cap, rfl, fun k hk => ?_⟩
  obtain ⟨a, rfl, hi⟩ := hc k hk
  refine ⟨a, rfl, fun j u hj => ?_⟩
  have h1 := hi j u hj
  rw [hb.cell (p := (a.add (k * 8)).add j) (cell_lt h1)]
  exact h1
end Go.Proofs.Ytdefgliogmlghaa
end
