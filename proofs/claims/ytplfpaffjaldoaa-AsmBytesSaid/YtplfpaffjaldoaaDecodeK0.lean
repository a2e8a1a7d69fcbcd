/-
Plain mathematics of bytes as instructions, one behind the other. It names nothing of the translated program.
What package decode's each hands over.
What package decode's All returns.
What package decode's All returns; cells of rows.
-/
import Derived.Test.YtplfpaffjaldoaaDecodeM
import Derived.RangeFuncNested
import Derived.RangeFuncBound
import Derived.RangeFuncCalls
import Derived.RangeFuncLeaves
import Derived.Shelf.Abstract
import Derived.Shelf.RegionOpen
import Derived.WalkKit
import Derived.OwnWalkIn
import Derived.TacticsInMore
import Derived.LoopNIn
import Derived.LoopIn
import Derived.Test.YtplfpaffjaldoaaDecodeG
import Derived.Maps.AppendAt
section
namespace Go.Proofs.Ytplfpaffjaldoaa.De
open Go.RowKit
open Th (Ins none0)
set_option linter.unusedVariables false

theorem len_cases (s : ByteArray) (h : err s = 0) : 2 ≤ len s ∧ len s ≤ s.size := by
  rcases err_cases s with ⟨_, h1, h2, _⟩ | h' | h'
  · have : len s = size s := by unfold len; rw [if_pos h]
    rw [this]
    rcases size_cases s with h3 | ⟨h3, _⟩ | ⟨h3, _⟩ <;> omega
  · rw [h] at h'; exact absurd h' (by decide)
  · rw [h] at h'; exact absurd h' (by decide)
theorem rest_size (s : ByteArray) (n : Nat) (h : n ≤ s.size) : (s.extract n s.size).size = s.size - n := by
  rw [ByteArray.size_extract]; omega
/-- what is handed over of bytes: instructions with their errors, up to the first that is one -/
def stepsF : Nat → ByteArray → List (Ins × Int)
  | 0, _ => []
  | n + 1, s => if s.size = 0 then [] else (ins s, err s) :: (if err s = 0 then stepsF n (s.extract (len s) s.size) else [])
theorem stepsF_succ (n : Nat) (s : ByteArray) : stepsF (n + 1) s = if s.size = 0 then [] else (ins s, err s) :: (if err s = 0 then stepsF n (s.extract (len s) s.size) else []) := rfl
theorem stepsF_more : ∀ n s, s.size ≤ n → stepsF (n + 1) s = stepsF n s := by
  intro n
  induction n with
  | zero => intro s h; rw [stepsF, stepsF, if_pos (by omega)]
  | succ n ih =>
    intro s h
    rw [stepsF_succ (n + 1) s, stepsF_succ n s]
    by_cases h0 : s.size = 0
    · rw [if_pos h0, if_pos h0]
    · rw [if_neg h0, if_neg h0]
      by_cases he : err s = 0
      · have hl := len_cases s he
        rw [if_pos he, if_pos he, ih _ (by rw [rest_size s _ hl.2]; omega)]
      · rw [if_neg he, if_neg he]
theorem stepsF_any (s : ByteArray) : ∀ n, s.size ≤ n → stepsF n s = stepsF s.size s := by
  intro n h
  induction n with
  | zero => rw [show s.size = 0 by omega]
  | succ n ih =>
    by_cases hn : s.size ≤ n
    · rw [stepsF_more n s hn, ih hn]
    · rw [show s.size = n + 1 by omega]
def steps (s : ByteArray) : List (Ins × Int) := stepsF s.size s
theorem steps_nil (s : ByteArray) (h : s.size = 0) : steps s = [] := by unfold steps; rw [h]; rfl
theorem steps_err (s : ByteArray) (h : ¬ s.size = 0) (he : ¬ err s = 0) : steps s = [(ins s, err s)] := by
  unfold steps
  obtain ⟨n, hn⟩ : ∃ n, s.size = n + 1 := ⟨s.size - 1, by omega⟩
  rw [hn, stepsF, if_neg h, if_neg he]
theorem steps_ok (s : ByteArray) (h : ¬ s.size = 0) (he : err s = 0) : steps s = (ins s, 0) :: steps (s.extract (len s) s.size) := by
  have hl := len_cases s he
  unfold steps
  rw [← stepsF_any (s.extract (len s) s.size) (s.size - 1) (by rw [rest_size s _ hl.2]; omega)]
  obtain ⟨n, hn⟩ : ∃ n, s.size = n + 1 := ⟨s.size - 1, by omega⟩
  rw [hn, stepsF, if_neg h, if_pos he, he, hn, Nat.add_sub_cancel]
def errs : List (Ins × Int) → Int
  | [] => 0
  | x :: l => if x.2 = 0 then errs l else x.2
theorem errs_app (l m : List (Ins × Int)) (h : errs l = 0) : errs (l ++ m) = errs m := by
  induction l with
  | nil => rfl
  | cons x l ih =>
    rw [errs] at h
    by_cases hx : x.2 = 0
    · rw [if_pos hx] at h
      rw [List.cons_append, errs, if_pos hx, ih h]
    · rw [if_neg hx] at h
      exact absurd h hx
/-- how all bytes end, and what they are -/
def allE (s : ByteArray) : Int := errs (steps s)
def allL (s : ByteArray) : List Ins := if allE s = 0 then (steps s).map Prod.fst else []
theorem steps_len (s : ByteArray) : (steps s).length ≤ s.size := by
  have : ∀ n s, (stepsF n s).length ≤ n := by
    intro n
    induction n with
    | zero => intro s; exact Nat.le_refl 0
    | succ n ih =>
      intro s
      rw [stepsF]
      by_cases h0 : s.size = 0
      · rw [if_pos h0]; exact Nat.zero_le _
      · rw [if_neg h0, List.length_cons]
        by_cases he : err s = 0
        · rw [if_pos he]; exact Nat.succ_le_succ (ih _)
        · rw [if_neg he]; exact Nat.succ_le_succ (Nat.zero_le _)
  exact this _ _
end Go.Proofs.Ytplfpaffjaldoaa.De
end
section
namespace Go.Proofs.Ytplfpaffjaldoaa
open Go.ChangeShapes Go.WideShapes Go.ChangeAt Go.RowKit Go.Shelf
set_option linter.unusedVariables false
attribute [local go_sem] Oper.semAt_some

theorem grown_below {A B : World} (h : Below A.heap.size A B) : A.grownBy B none := ⟨h.os, h.tape, h.output, h.size, fun k hk _ => h.block k hk⟩
theorem decode_told (s : ByteArray) (op rd rn rm ra imm cond : Int) (wide : Bool) (n e : Int) (w : World) (hm : s.size ≤ maxLen) (h : Hid (Told s ⟨op, rd, rn, rm, ra, imm, cond, wide⟩ n e)) :
    Calls Try.prog 48 #[.string s] w fun r w' => r = .returned (.tuple #[.agg #[.int .i64 op, .int .i64 rd, .int .i64 rn, .int .i64 rm, .int .i64 ra, .int .i64 imm, .int .i64 cond, .bool wide], .int .i64 n, .int .i64 e]) ∧ Below w.heap.size w w' := decode_lit s op rd rn rm ra imm cond wide n e w hm h.out
abbrev stepV (x : Th.Ins × Int) : Array Value := #[insV x.1, .int .i64 x.2]
/-- what is left of the steps, behind those that have come -/
def Rest (s : ByteArray) (pre : List (Th.Ins × Int)) (r : ByteArray) : Prop := De.steps s = pre ++ De.steps r ∧ r.size ≤ maxLen
def lenS : Value → Nat | .string b => b.size | _ => 0
set_option maxRecDepth 100000 in
set_option maxHeartbeats 4000000 in
theorem each1_in (n l Bn : Nat) (s : ByteArray) (hm : s.size ≤ maxLen) (hn : 1 ≤ n) (B : Nat) (J Jx : List (Th.Ins × Int) → World → Prop) (hJ : AbidesFrom B J)
    (hY : ∀ pre x W, J pre W → pre.length < (De.steps s).length → YieldAt Fence.wide (n - 1) Try.prog l (stepV x) W fun e W' =>
      (e = .returned (.bool true) ∧ J (pre ++ [x]) W' ∧ True) ∨ (e = .returned (.bool false) ∧ Jx (pre ++ [x]) W'))
    (W : World) (hBn : W.cell? ⟨Bn, 0, none⟩ = some (.string s)) (h0 : J [] W) :
    CallsIn Fence.wide n Try.prog 47 #[.func (.yield l) #[] #[], .pointer (some ⟨Bn, 0, none⟩)] W fun e W' => (∃ v, e = .returned v) ∧
      ((∃ ys, ys = De.steps s ∧ J ys W') ∨ (∃ pre, pre <+: De.steps s ∧ Jx pre W')) := by
  refine callsIn_of_wp Try.func47 rfl trivial ?_ rfl
  simp only [Try.ntmps47, List.size_toArray, List.length_cons, List.length_nil, Nat.reduceAdd, Nat.reduceSub, Array.replicate_succ, Array.replicate_zero, List.push_toArray, List.append_toArray, List.nil_append, List.cons_append]
  gi_wp2
  gi_loopw [3] (fun p wr => ∃ (pre : List (Th.Ins × Int)) (r : ByteArray), p = .string r ∧ Rest s pre r ∧ J pre wr) (fun p _ => lenS p)
  case atStart => exact ⟨[], s, rfl, ⟨rfl, hm⟩, h0⟩
  case round =>
    obtain ⟨pre, r, rfl, hL, hJs⟩ := hrel
    by_cases hz : r.size = 0
    · have hzz : ¬ (0 : Int) < (r.size : Int) := by omega
      have HL := Lib.hid hL
      clear hL
      gi_wp2
      go_end0
      exact ⟨⟨_, rfl⟩, .inl (by rw [HL.out.1, De.steps_nil r hz, List.append_nil]; exact hJs)⟩
    · have hzz : (0 : Int) < (r.size : Int) := by omega
      rcases hI : De.ins r with ⟨op, rd, rn, rm, ra, imm, cond, wide⟩
      by_cases he : De.err r = 0
      · have hst := De.steps_ok r hz he
        rw [hI] at hst
        have hlen : pre.length < (De.steps s).length := by rw [hL.1, hst]; simp
        have hlc := De.len_cases r he
        obtain ⟨Ln, hLn⟩ : ∃ Ln, De.len r = Ln := ⟨_, rfl⟩
        rw [hLn] at hlc hst
        have HT : Hid (Told r ⟨op, rd, rn, rm, ra, imm, cond, wide⟩ (Ln : Int) 0) := Lib.hid ⟨hI, by rw [hLn], he⟩
        have HST := Lib.hid hst
        have HL := Lib.hid hL
        have hl1 : (0 : Int) ≤ (Ln : Int) := by omega
        have hl2 : (Ln : Int) ≤ (r.size : Int) := by omega
        have hl3 : Ln ≤ r.size := hlc.2
        have hl4 : 2 ≤ Ln := hlc.1
        clear hL hst hI he hLn hlc
        gi_wp2_with (refine ⟨trivial, ?_⟩; gi_at_call 48; refine (callsIn_wide.2 (decode_told _ _ _ _ _ _ _ _ _ _ _ _ HL.out.2 HT)).mono ?_; rintro e w1 ⟨rfl, hb1⟩; have hJ1 := hJ pre wr (w1.alloc (.cells #[.int .i64 op, .int .i64 rd, .int .i64 rn, .int .i64 rm, .int .i64 ra, .int .i64 imm, .int .i64 cond, .bool wide] 39)) none hJs (grown_below (hb1.alloc hb1.size _)) (fun r e => by cases e); obtain ⟨fn, tmps, assign, body, hy, hR⟩ := hY pre (⟨op, rd, rn, rm, ra, imm, cond, wide⟩, 0) _ hJ1 hlen; dsimp only [stepV, insV] at hy)
        refine hR.mono ?_
        rintro e W3 (⟨rfl, hJ3, -⟩ | ⟨rfl, hJx3⟩)
        · gi_wp2
          go_roundw
          case rel => exact ⟨_, _, rfl, ⟨by rw [HL.out.1, HST.out, List.append_assoc]; rfl, by have := HL.out.2; rw [De.rest_size r _ hl3]; omega⟩, hJ3⟩
          case measure => show (r.extract Ln r.size).size < r.size; rw [De.rest_size r _ hl3]; omega
        · gi_wp2
          refine bodyPost_ret (results_none rfl _ _ _) rfl ?_
          exact ⟨⟨_, rfl⟩, .inr ⟨_, ⟨De.steps (r.extract Ln r.size), by rw [HL.out.1, HST.out]; simp⟩, hJx3⟩⟩
      · have hst := De.steps_err r hz he
        rw [hI] at hst
        have hlen : pre.length < (De.steps s).length := by rw [hL.1, hst]; simp
        obtain ⟨E, hE⟩ : ∃ E, De.err r = E := ⟨_, rfl⟩
        rw [hE] at hst he
        have HT : Hid (Told r ⟨op, rd, rn, rm, ra, imm, cond, wide⟩ (De.len r : Int) E) := Lib.hid ⟨hI, rfl, hE⟩
        have HST := Lib.hid hst
        have HL := Lib.hid hL
        have hE1 : (E != 0) = true := by simpa using he
        clear hL hst hI hE
        gi_wp2_with (refine ⟨trivial, ?_⟩; gi_at_call 48; refine (callsIn_wide.2 (decode_told _ _ _ _ _ _ _ _ _ _ _ _ HL.out.2 HT)).mono ?_; rintro e w1 ⟨rfl, hb1⟩; have hJ1 := hJ pre wr (w1.alloc (.cells #[.int .i64 op, .int .i64 rd, .int .i64 rn, .int .i64 rm, .int .i64 ra, .int .i64 imm, .int .i64 cond, .bool wide] 39)) none hJs (grown_below (hb1.alloc hb1.size _)) (fun r e => by cases e); obtain ⟨fn, tmps, assign, body, hy, hR⟩ := hY pre (⟨op, rd, rn, rm, ra, imm, cond, wide⟩, E) _ hJ1 hlen; dsimp only [stepV, insV] at hy)
        refine hR.mono ?_
        rintro e W3 (⟨rfl, hJ3, -⟩ | ⟨rfl, hJx3⟩)
        · gi_wp2
          refine bodyPost_ret (results_none rfl _ _ _) rfl ?_
          exact ⟨⟨_, rfl⟩, .inl ⟨_, by rw [HL.out.1, HST.out], hJ3⟩⟩
        · gi_wp2
          refine bodyPost_ret (results_none rfl _ _ _) rfl ?_
          exact ⟨⟨_, rfl⟩, .inr ⟨_, ⟨[], by rw [HL.out.1, HST.out]; simp⟩, hJx3⟩⟩
set_option maxHeartbeats 1000000 in
theorem each_in (n : Nat) (s : ByteArray) (w : World) :
    CallsIn Fence.wide n Try.prog 27 #[.string s] w fun e w' => e = .returned (.func (.func 47) #[] #[.pointer (some ⟨w.heap.size, 0, none⟩)]) ∧ w' = w.alloc (.cells #[.string s] 9) := by
  refine callsIn_of_wp Try.func27 rfl trivial ?_ rfl
  simp only [Try.ntmps27, List.size_toArray, List.length_cons, List.length_nil, Nat.reduceAdd, Nat.reduceSub, Array.replicate_succ, Array.replicate_zero, List.push_toArray, List.append_toArray, List.nil_append, List.cons_append]
  gi_wp2
  go_ret
  exact ⟨rfl, rfl⟩
theorem each_stops (n : Nat) (hn : 1 ≤ n) (Bn : Nat) (s : ByteArray) (hm : s.size ≤ maxLen) (w : World) (hBn : Bn < w.heap.size) (hc : w.cell? ⟨Bn, 0, none⟩ = some (.string s)) :
    SeqStopsK Fence.wide n Try.prog 47 #[.pointer (some ⟨Bn, 0, none⟩)] stepV (fun _ _ => True) (fun ys => ys = De.steps s) (fun pre => pre <+: De.steps s) (De.steps s).length w := fun l J Jx W hW hJ _ hY h0 =>
  each1_in n l Bn s hm hn W.heap.size J Jx hJ hY W ((hW.cell (p := ⟨Bn, 0, none⟩) hBn).trans hc) h0
end Go.Proofs.Ytplfpaffjaldoaa
end
section
namespace Go.Proofs.Ytplfpaffjaldoaa
open Go.ChangeShapes Go.WideShapes Go.ChangeAt Go.RowKit Go.Shelf
set_option linter.unusedVariables false
attribute [local go_sem] Oper.semAt_some

/-- an instruction's cells -/
def insC (i : Th.Ins) : List Value := [.int .i64 i.op, .int .i64 i.rd, .int .i64 i.rn, .int .i64 i.rm, .int .i64 i.ra, .int .i64 i.imm, .int .i64 i.cond, .bool i.wide]
def insCs (l : List Th.Ins) : List Value := l.flatMap insC
theorem insCs_app (l : List Th.Ins) (i : Th.Ins) : insCs (l ++ [i]) = insCs l ++ insC i := by unfold insCs; simp
theorem insCs_len (l : List Th.Ins) : (insCs l).length = l.length * 8 := by
  induction l with
  | nil => rfl
  | cons i l ih => show (insC i ++ insCs l).length = _; rw [List.length_append, ih]; show 8 + _ = _; simp; omega
theorem errs_pre (l m : List (Th.Ins × Int)) (h : ¬ De.errs l = 0) : De.errs (l ++ m) = De.errs l := by
  induction l with
  | nil => exact absurd rfl h
  | cons x l ih =>
    rw [De.errs] at h
    rw [List.cons_append, De.errs, De.errs]
    by_cases hx : x.2 = 0
    · rw [if_pos hx] at h
      rw [if_pos hx, if_pos hx, ih h]
    · rw [if_neg hx, if_neg hx]
/-- block B is a struct's box -/
def BoxedS (W : World) (B : Nat) (i : Th.Ins) : Prop := W.heap[B]? = some (.cells (insC i).toArray 39 (0, 0))
theorem boxedS_own (B : Nat) (i : Th.Ins) : Own (fun (_ : Unit) W => BoxedS W B i) := fun s X Y row hs hg hrow => by
  have hs' : X.heap[B]? = _ := hs
  refine (hg.block B (Array.getElem?_eq_some_iff.1 hs').1 (fun e' => ?_)).trans hs'
  obtain ⟨o, ho, hc⟩ := hrow B e'.symm
  rw [hs'] at ho; cases ho; cases hc
theorem BoxedS.cells {W : World} {B : Nat} {op rd rn rm ra imm cond : Int} {wide : Bool} (h : BoxedS W B ⟨op, rd, rn, rm, ra, imm, cond, wide⟩) : InsAt W B op rd rn rm ra imm cond wide := by
  have h' : W.heap[B]? = some (.cells #[.int .i64 op, .int .i64 rd, .int .i64 rn, .int .i64 rm, .int .i64 ra, .int .i64 imm, .int .i64 cond, .bool wide] 39 (0, 0)) := h
  refine ⟨?_, ?_, ?_, ?_, ?_, ?_, ?_, ?_⟩ <;> simp [World.cell?, h']
theorem cell8_new (w : World) (i : Th.Ins) (t : TypeId) : ∀ j u, (insC i)[j]? = some u → (w.alloc (.cells #[.int .i64 i.op, .int .i64 i.rd, .int .i64 i.rn, .int .i64 i.rm, .int .i64 i.ra, .int .i64 i.imm, .int .i64 i.cond, .bool i.wide] t)).cell? ((⟨w.heap.size, 0, none⟩ : Addr).add j) = some u := by
  intro j u hj
  have hlt : j < 8 := by
    apply Nat.lt_of_not_le
    intro hge
    rw [List.getElem?_eq_none (by exact hge)] at hj
    cases hj
  rcases (by omega : j = 0 ∨ j = 1 ∨ j = 2 ∨ j = 3 ∨ j = 4 ∨ j = 5 ∨ j = 6 ∨ j = 7) with rfl | rfl | rfl | rfl | rfl | rfl | rfl | rfl <;> (simp [insC] at hj; subst hj; simp [go_sem, Addr.add])
theorem Try.infoIns : (Try.prog.info? 39).map (fun i => (i.zero, i.size, i.bytes)) = some (some (.agg #[.int .i64 0, .int .i64 0, .int .i64 0, .int .i64 0, .int .i64 0, .int .i64 0, .int .i64 0, .bool false]), 8, 64) := by kernel_rfl
set_option maxRecDepth 100000 in
set_option maxHeartbeats 8000000 in
theorem all_in (n : Nat) (hn : 3 ≤ n) (s : ByteArray) (hm : s.size ≤ 16777216) (w : World) :
    CallsIn Fence.wide n Try.prog 11 #[.string s] w fun e W' => ∃ v, e = .returned (.tuple #[v, .int .i64 (De.allE s)]) ∧ W'.ownsRow w.heap.size 39 8 v (De.allL s).length (insCs (De.allL s)) ∧ Below w.heap.size w W' := by
  have h1 : 1 ≤ n := by omega
  have hm' : s.size ≤ maxLen := by unfold maxLen; omega
  have hsl := De.steps_len s
  obtain ⟨i0, hi, hz0, hz1, hz2⟩ := info_parts Try.infoIns
  refine callsIn_of_wp_marks Try.func11 rfl trivial ?_ rfl
  simp only [Try.ntmps11, List.size_toArray, List.length_cons, List.length_nil, Nat.reduceAdd, Nat.reduceSub, Array.replicate_succ, Array.replicate_zero, List.push_toArray, List.append_toArray, List.nil_append, List.cons_append]
  gi_wp2_with (refine ⟨trivial, ?_⟩; gi_at_call 27; refine (each_in (n - 1) _ _).mono ?_; rintro e w' ⟨rfl, rfl⟩)
  obtain ⟨W0, hW0⟩ : ∃ W0, (((w.alloc (Obj.cells #[Value.slice none 0 0] 35)).alloc (Obj.cells #[Value.int IntKind.i64 0] 26)).alloc (Obj.cells #[Value.slice none 0 0] 35)).alloc (Obj.cells #[Value.string s] 9) = W0 := ⟨_, rfl⟩
  have hsz : W0.heap.size = w.heap.size + 4 := by rw [← hW0]; simp
  have b0 : Boxed W0 w.heap.size 35 (.slice none 0 0) := by
    rw [← hW0]; exact (((Boxed.new w _ _).alloc _).alloc _).alloc _
  have b1 : Boxed W0 (w.heap.size + 1) 26 (.int .i64 0) := by
    have h := Boxed.new (w.alloc (Obj.cells #[Value.slice none 0 0] 35)) 26 (.int .i64 0)
    rw [World.size_alloc] at h
    rw [← hW0]; exact (h.alloc _).alloc _
  have b2 : Boxed W0 (w.heap.size + 1 + 1) 35 (.slice none 0 0) := by
    have h := Boxed.new ((w.alloc (Obj.cells #[Value.slice none 0 0] 35)).alloc (Obj.cells #[Value.int IntKind.i64 0] 26)) 35 (.slice none 0 0)
    rw [World.size_alloc, World.size_alloc] at h
    rw [← hW0]; exact h.alloc _
  have b3 : Boxed W0 (w.heap.size + 1 + 1 + 1) 9 (.string s) := by
    have h := Boxed.new (((w.alloc (Obj.cells #[Value.slice none 0 0] 35)).alloc (Obj.cells #[Value.int IntKind.i64 0] 26)).alloc (Obj.cells #[Value.slice none 0 0] 35)) 9 (.string s)
    rw [World.size_alloc, World.size_alloc, World.size_alloc] at h
    rw [← hW0]; exact h
  have hB0 : Below w.heap.size w W0 := by
    rw [← hW0]; exact ((((Below.refl _ w).alloc (Nat.le_refl _) _).alloc (by simp) _).alloc (by simp; omega) _).alloc (by simp; omega) _
  rw [hW0]
  clear hW0
  refine wpIn_rangeFunc_ownH rfl h1 (gf := 47) (lb := #[.pointer (some ⟨w.heap.size + 1 + 1 + 1, 0, none⟩)]) rfl trivial (enters_of Try.func47 (by kernel_rfl) rfl)
    (each_stops (n - 1) (by omega) (w.heap.size + 1 + 1 + 1) s hm' W0 b3.lt b3.cell) (fun _ _ => trivial) (fun _ _ _ _ _ _ _ _ => trivial) (Below.refl _ _) (fun _ => rfl)
    (fun (pre : List (Th.Ins × Int)) W => (((∃ v, Boxed W (w.heap.size + 1 + 1) 35 v ∧ W.ownsRow w.heap.size 39 8 v pre.length (insCs (pre.map Prod.fst)) ∧ True) ∧ Boxed W w.heap.size 35 (.slice none 0 0)) ∧ Boxed W (w.heap.size + 1) 26 (.int .i64 0)) ∧ De.errs pre = 0 ∧ Below w.heap.size w W)
    (fun c (pre : List (Th.Ins × Int)) W => ((c = .ret ∧ ¬ De.errs pre = 0) ∧ Boxed W w.heap.size 35 (.slice none 0 0)) ∧ Boxed W (w.heap.size + 1) 26 (.int .i64 (De.errs pre)) ∧ Below w.heap.size w W)
    (OwnFrom.and (OwnFrom.and (OwnFrom.and (Own.from (holdsRow_own w.heap.size (w.heap.size + 1 + 1) 35 39 8 (fun (pre : List (Th.Ins × Int)) => pre.length) (fun (pre : List (Th.Ins × Int)) => insCs (pre.map Prod.fst)) (fun _ _ => True)) _) (Own.from (boxed_own _ _ _) _)) (Own.from (boxed_own _ _ _) _)) (OwnFrom.and (ownFrom_pure _ _) (ownFrom_below (Nat.le_refl _) (by omega))))
    (fun c => OwnFrom.and (OwnFrom.and (ownFrom_pure _ _) (Own.from (boxed_own _ _ _) _)) (OwnFrom.and (Own.from (boxed_own _ _ _) _) (ownFrom_below (Nat.le_refl _) (by omega))))
    ⟨⟨⟨⟨_, b2, World.ownsRow_nil _ _ _ _, trivial⟩, b0⟩, b1⟩, rfl, hB0⟩
    (fun (x : Th.Ins × Int) a' W => ∃ Bx, BoxedS W Bx x.1 ∧ a' = { tmps := #[.string s, undef, .pointer (some ⟨w.heap.size, 0, none⟩), .pointer (some ⟨w.heap.size + 1, 0, none⟩), .pointer (some ⟨w.heap.size + 1 + 1, 0, none⟩), .pointer (some ⟨Bx, 0, none⟩), .int .i64 x.2, .string s, .func (.func 47) #[] #[.pointer (some ⟨w.heap.size + 1 + 1 + 1, 0, none⟩)], insV x.1, .int .i64 x.2, undef, undef, undef, undef, undef, undef, undef, undef], defers := [] })
    (fun x a' _ X Y row hs hg hr => by obtain ⟨Bx, h, e⟩ := hs; exact ⟨Bx, boxedS_own Bx x.1 () X Y row h hg (fun r e => (hr r e).2), e⟩)
    ?assign ?body ?done ?stop
  case assign =>
    rintro l pre ⟨⟨op, rd, rn, rm, ra, imm, cond, wide⟩, E⟩ W K ⟨⟨⟨⟨v, hv, hrow, -⟩, h0⟩, h2⟩, he, hB⟩ hK
    gi_wp2
    exact hK _ _ ((KeepsOthers.alloc _ _).from _) trivial ⟨⟨⟨⟨v, hv.alloc _, hrow.alloc _, trivial⟩, h0.alloc _⟩, h2.alloc _⟩, he, hB.alloc hB.size _⟩ ⟨W.heap.size, World.alloc_heap_new W _, rfl⟩
  case body =>
    rintro l pre ⟨⟨op, rd, rn, rm, ra, imm, cond, wide⟩, E⟩ a' W hl hr ⟨⟨⟨⟨v, hv, hrow, -⟩, h0⟩, h2⟩, he, hB⟩ ⟨Bx, hS, rfl⟩ hlt
    by_cases hE : E = 0
    · subst hE
      have hc := hv.cell
      obtain ⟨i0', i1', i2', i3', i4', i5', i6', i7'⟩ := hS.cells
      gi_wp2_with (gi_at_builtin; refine wpListIn_append_own _ rfl _ _ 35 rfl w.heap.size 39 i0 (.agg #[.int .i64 0, .int .i64 0, .int .i64 0, .int .i64 0, .int .i64 0, .int .i64 0, .int .i64 0, .bool false]) 8 64 Try.underlying35 hi hz0 hz1 hz2 rfl (by decide) _ _ _ rfl (hrow.alloc _) ⟨W.heap.size, 0, none⟩ 1 1 (insC ⟨op, rd, rn, rm, ra, imm, cond, wide⟩) rfl rfl (cell8_new _ _ _) (by simp [insC, Value.oneCell']) (by unfold maxLen; omega) (by omega) (by have := hB.size; simp; omega) ?_; intro v' w1 hown' hgrow _; obtain ⟨g', cap', rfl⟩ := ownsRow_succ hown'; obtain ⟨hv1, hv2, hr2, hk2, hb2⟩ := hv.appended (by decide) hrow hB.size (by omega) hown' hgrow; have h0w := (h0.alloc _).kept hgrow (h0.not_row (by decide) hrow); have h2w := (h2.alloc _).kept hgrow (h2.not_row (by decide) hrow); have hc1 := hv1.cell; have hf1 := hv1.frozen)
      have e1 : (pre ++ [((⟨op, rd, rn, rm, ra, imm, cond, wide⟩ : Th.Ins), (0 : Int))]).length = pre.length + 1 := by simp
      have e2 : insCs ((pre ++ [((⟨op, rd, rn, rm, ra, imm, cond, wide⟩ : Th.Ins), (0 : Int))]).map Prod.fst) = insCs (pre.map Prod.fst) ++ insC ⟨op, rd, rn, rm, ra, imm, cond, wide⟩ := by rw [List.map_append]; exact insCs_app _ _
      exact ⟨hk2.from _, trivial, ⟨⟨⟨_, hv2, by rw [e1, e2]; exact hr2⟩, h0w.other (by omega) _⟩, h2w.other (by omega) _⟩, by rw [De.errs_app _ _ he]; rfl, hB.trans hb2⟩
    · have hE1 : (E != 0) = true := by simpa using hE
      have c0 := h0.cell
      have f0 := h0.frozen
      have c2 := h2.cell
      have f2 := h2.frozen
      gi_wp2
      have hee : De.errs (pre ++ [((⟨op, rd, rn, rm, ra, imm, cond, wide⟩ : Th.Ins), E)]) = E := by rw [De.errs_app _ _ he]; exact if_neg hE
      exact ⟨((KeepsOthers.setCell _ _ _).trans (KeepsOthers.setCell _ _ _)).from _, ⟨⟨rfl, by rw [hee]; exact hE⟩, (h0.set _).other (by omega) _⟩, by rw [hee]; exact (h2.other (by omega) _).set _, (hB.setCell (p := ⟨w.heap.size, 0, none⟩) (Nat.le_refl _) _).setCell (p := ⟨w.heap.size + 1, 0, none⟩) (by simp) _⟩
  case done =>
    rintro D ys W hD rfl ⟨⟨⟨⟨v, hv, hrow, -⟩, h0⟩, h2⟩, he, hB⟩ hK
    obtain ⟨q, m, c, rfl⟩ : ∃ q m c, v = .slice q m c := by
      rcases hrow.2 with ⟨rfl, _⟩ | ⟨g, cap, cur, rfl, _⟩ <;> exact ⟨_, _, _, rfl⟩
    have c0 := h0.cell
    have f0 := h0.frozen
    have c2 := h2.cell
    have f2 := h2.frozen
    have cv := hv.cell
    gi_wp2
    obtain ⟨W1, hW1⟩ : ∃ W1, (W.setCell ⟨w.heap.size, 0, none⟩ (.slice q m c)).setCell ⟨w.heap.size + 1, 0, none⟩ (.int .i64 0) = W1 := ⟨_, rfl⟩
    have hK1 : W1.heap[D]? = some (.deferred (some [])) := by rw [← hW1]; exact (KeepsOthers.setCell _ _ _).same D _ ((KeepsOthers.setCell _ _ _).same D _ hK rfl) rfl
    have B0 : Boxed W1 w.heap.size 35 (.slice q m c) := by rw [← hW1]; exact (h0.set _).other (by omega) _
    have B1 : Boxed W1 (w.heap.size + 1) 26 (.int .i64 0) := by rw [← hW1]; exact (h2.other (by omega) _).set _
    have hR1 : W1.ownsRow w.heap.size 39 8 (.slice q m c) (De.steps s).length (insCs ((De.steps s).map Prod.fst)) := by
      rw [← hW1]
      exact (hrow.kept (grownBy_setCell' _ _ _) (.inr (h0.not_row (by decide) hrow).symm)).kept (grownBy_setCell' _ _ _) (.inr (h2.not_row (by decide) hrow).symm)
    have hB1 : Below w.heap.size w W1 := by rw [← hW1]; exact (hB.setCell (p := ⟨w.heap.size, 0, none⟩) (Nat.le_refl _) _).setCell (p := ⟨w.heap.size + 1, 0, none⟩) (by simp) _
    rw [hW1]
    have c0' := (B0.kept (grownBy_putObj' W1 D (.deferred none)) (fun e => by cases e; omega)).cell
    have c1' := (B1.kept (grownBy_putObj' W1 D (.deferred none)) (fun e => by cases e; omega)).cell
    have eA : De.allE s = 0 := he
    have eL : De.allL s = (De.steps s).map Prod.fst := if_pos eA
    rw [eA, eL, List.length_map]
    refine ⟨by simp, .inl ⟨_, _, rfl, run_takeDeferred hK1, ?_⟩⟩
    exact ⟨.tuple #[.slice q m c, .int .i64 0], by simp [results, Try.results11, go_sem, c0', c1'], _, rfl, ownsRow_putObj hR1 _ hK1 rfl, hB1.trans (belowK_b (w := w) (Nat.le_refl _) W1 D _ _ (by omega) hK1 rfl rfl)⟩
  case stop =>
    rintro D c pre W hD hpre ⟨⟨⟨rfl, hne⟩, h0⟩, h2, hB⟩ hK
    have c0 := h0.cell
    have c2 := h2.cell
    gi_wp2
    obtain ⟨rest, hrest⟩ := hpre
    have eA : De.allE s = De.errs pre := by unfold De.allE; rw [← hrest]; exact errs_pre _ _ hne
    have eL : De.allL s = [] := if_neg (by rw [eA]; exact hne)
    have c0' := (h0.kept (grownBy_putObj' W D (.deferred none)) (fun e => by cases e; omega)).cell
    have c1' := (h2.kept (grownBy_putObj' W D (.deferred none)) (fun e => by cases e; omega)).cell
    rw [eA, eL]
    refine ⟨by simp, .inl ⟨_, _, rfl, run_takeDeferred hK, ?_⟩⟩
    exact ⟨.tuple #[.slice none 0 0, .int .i64 (De.errs pre)], by simp [results, Try.results11, go_sem, c0', c1'], _, rfl, World.ownsRow_nil _ _ _ _, hB.trans (belowK_b (w := w) (Nat.le_refl _) W D _ _ (by omega) hK rfl rfl)⟩
end Go.Proofs.Ytplfpaffjaldoaa
end
section
namespace Go.Proofs.Ytplfpaffjaldoaa
open Go.ChangeShapes Go.WideShapes Go.ChangeAt Go.RowKit
set_option linter.unusedVariables false

theorem all_any (s : ByteArray) (hm : s.size ≤ 16777216) (w : World) :
    Calls Try.prog 11 #[.string s] w fun e W' => ∃ v, e = .returned (.tuple #[v, .int .i64 (De.allE s)]) ∧ W'.ownsRow w.heap.size 39 8 v (De.allL s).length (insCs (De.allL s)) ∧ Below w.heap.size w W' := callsIn_wide.1 (all_in 3 (Nat.le_refl 3) s hm w)
theorem own_ge {W : World} {base : Nat} {e : TypeId} {size : Nat} {v : Value} {n : Nat} {xs : List Value} (h : W.ownsRow base e size v n xs) : ∀ j, v.ownBlock = some j → base ≤ j := by
  intro j ej
  rcases h.2 with ⟨rfl, _⟩ | ⟨g, cap, cur, rfl, hb, _⟩
  · simp [Value.ownBlock] at ej
  · obtain rfl : g = j := by simpa [Value.ownBlock] using ej
    exact hb
theorem add_zero' (a : Addr) : a.add 0 = a := by unfold Addr.add; split <;> simp_all
theorem cell_lt {w : World} {a : Addr} {u : Value} (h : w.cell? a = some u) : a.block < w.heap.size := by
  apply Nat.lt_of_not_le
  intro hge
  simp [World.cell?, Array.getElem?_eq_none hge] at h
end Go.Proofs.Ytplfpaffjaldoaa
end
