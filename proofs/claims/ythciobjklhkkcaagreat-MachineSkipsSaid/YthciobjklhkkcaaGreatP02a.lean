/-
Package memmap: what whole, has, Check and Rail return, and the document's Check.
What strings.Builder's methods return; a builder of the call's own.
What each call of package word, and of the document's own word, returns: contracts for the walks. The world stays as it was.
-/
import Derived.Deep.Slices
import Derived.Lib.Hide
import Derived.WalkKit
import Derived.ProofKit
import Derived.OwnWalk
import Derived.Below
import Derived.LoopN
import Derived.Laws.Cover1
import Derived.Handy
import Derived.Deep.RegionHeld3
import Derived.Deep.QuietTactic
import Derived.Test.YthciobjklhkkcaaGreatRows
import Derived.Test.YthciobjklhkkcaaGreatP01a
import Derived.Lib.Strings
import Derived.Lib.Slices
import Derived.Lib.Walk
import Derived.Lib.Builder
import Derived.Lib.AppendStr
import Derived.Lib.UnsafeStr
import Derived.Laws.Externs
import Derived.Laws.IdiomCopy
import Derived.LoopTactic
section
namespace Go.Proofs.YthciobjklhkkcaaGreat
open Go.ChangeShapes Go.WideShapes Go.ChangeAt Go.RowKit
set_option maxHeartbeats 8000000
set_option maxRecDepth 100000
set_option linter.unusedVariables false

theorem whole_any (n : Int) (w : World) :
  Calls Tryz.prog 104 #[.int .i64 n] w fun e w' => e = .returned (.bool (Mm.whole n)) ∧ w' = w := by
 by_cases h0 : (0 : Int) ≤ n
 ·have e : (n % 4 == 0) = Mm.whole n := by unfold Mm.whole; rw [decide_eq_true h0, Bool.true_and]
  have He := Lib.hid e
  clear e
  go_enter Tryz.func104, Tryz.ntmps104
  go_wp2
  go_ret
  exact ⟨ret_bool He.out, rfl⟩
 ·have e : false = Mm.whole n := by unfold Mm.whole; rw [decide_eq_false h0, Bool.false_and]
  have He := Lib.hid e
  clear e
  go_enter Tryz.func104, Tryz.ntmps104
  go_wp2
  go_ret
  exact ⟨ret_bool He.out, rfl⟩
theorem Mm.w64 {n : Int} (h : -9223372036854775808 ≤ n) (h' : n ≤ 9223372036854775807) : wrap64 n = n := by unfold wrap64; omega
theorem Mm.has_u (base len a n : Int) (wr : Bool) (hn0 : 0 ≤ n) (hb : -9223372036854775808 ≤ base) (ha : a ≤ 9223372036854775807) (hl : len ≤ 9223372036854775807) (h0 : base ≤ a) (h1 : n ≤ len) :
  decide (IntKind.u64.wrap (IntKind.u64.wrap a - IntKind.u64.wrap base) ≤ IntKind.u64.wrap (wrap64 (len - n))) = Mm.has ⟨base, len, wr⟩ a n := by
 unfold Mm.has
 have e1 : IntKind.u64.wrap (IntKind.u64.wrap a - IntKind.u64.wrap base) = a - base := by
  simp only [IntKind.wrap_u64]; omega
 have e2 : IntKind.u64.wrap (wrap64 (len - n)) = len - n := by
  rw [Mm.w64 (by omega) (by omega), IntKind.wrap_u64]; omega
 rw [e1, e2]
 exact decide_eq_decide.2 ⟨fun h => ⟨h0, h1, h⟩, fun h => h.2.2⟩
theorem has_any (base len : Int) (wr : Bool) (a n : Int) (w : World) (hn0 : Hid (0 ≤ n)) (hb : Hid (-9223372036854775808 ≤ base)) (ha : Hid (a ≤ 9223372036854775807)) (hl : Hid (len ≤ 9223372036854775807)) :
  Calls Tryz.prog 119 #[.agg #[.int .i64 base, .int .i64 len, .bool wr], .int .i64 a, .int .i64 n] w fun e w' => e = .returned (.bool (Mm.has ⟨base, len, wr⟩ a n)) ∧ Below w.heap.size w w' := by
 by_cases h0 : base ≤ a
 ·by_cases h1 : n ≤ len
  ·go_enter Tryz.func119, Tryz.ntmps119
   go_wp2
   go_ret
   exact ⟨ret_bool (Mm.has_u base len a n wr hn0.out hb.out ha.out hl.out h0 h1), by go_grown⟩
  ·have e : Hid (false = Mm.has ⟨base, len, wr⟩ a n) := Lib.hid (by unfold Mm.has; rw [decide_eq_false (fun h => h1 h.2.1)])
   go_enter Tryz.func119, Tryz.ntmps119
   go_wp2
   go_ret
   exact ⟨ret_bool e.out, by go_grown⟩
 ·have e : Hid (false = Mm.has ⟨base, len, wr⟩ a n) := Lib.hid (by unfold Mm.has; rw [decide_eq_false (fun h => h0 h.1)])
  go_enter Tryz.func119, Tryz.ntmps119
  go_wp2
  go_ret
  exact ⟨ret_bool e.out, by go_grown⟩
def Mm.mx (i o r : Int) : Int := if r > (if o > i then o else i) then r else (if o > i then o else i)
def Mm.mn (i o r f : Int) : Int := if f < (if r < (if o < i then o else i) then r else (if o < i then o else i)) then f else (if r < (if o < i then o else i) then r else (if o < i then o else i))
theorem Mm.mx_le (i o r : Int) : ¬ (65536 < Mm.mx i o r) ↔ (i ≤ 65536 ∧ o ≤ 65536 ∧ r ≤ 65536) := by
 unfold Mm.mx; split <;> split <;> omega
theorem Mm.mn_neg (i o r f : Int) : Mm.mn i o r f < 0 ↔ (i < 0 ∨ o < 0 ∨ r < 0 ∨ f < 0) := by
 unfold Mm.mn; repeat' split
 all_goals omega
theorem run_max3 {P : Program} (ts : Array TypeId) (t : TypeId) (i o r m : Int) (h : Mm.mx i o r = m) (w : World) : (Builtin.max_ ts t #[.int .i64 i, .int .i64 o, .int .i64 r]).run P w = .ok (.int .i64 m) w := by
 rw [run_max_int3, ← h]; rfl
theorem run_min4 {P : Program} (ts : Array TypeId) (t : TypeId) (i o r f m : Int) (h : Mm.mn i o r f = m) (w : World) : (Builtin.min_ ts t #[.int .i64 i, .int .i64 o, .int .i64 r, .int .i64 f]).run P w = .ok (.int .i64 m) w := by
 rw [← h]; simp [Builtin.min_, Builtin.min2, Mm.mn]
theorem Mm.err_ok {i o r f : Int} (h1 : Mm.whole i = true) (h2 : Mm.whole o = true) (h3 : Mm.whole r = true) (h4 : 0 ≤ f) (h5 : 4 ≤ r) : Mm.err i o r f = if i ≤ 65536 ∧ o ≤ 65536 ∧ r ≤ 65536 ∧ f ≤ 262144 then 0 else 5 := by
 unfold Mm.err; rw [h1, h2, h3, decide_eq_true h4, decide_eq_true h5]; rfl
theorem mcheck_any (i o r f : Int) (w : World) :
  Calls Tryz.prog 75 #[.agg #[.int .i64 i, .int .i64 o, .int .i64 r], .int .i64 f] w fun e w' => e = .returned (.int .i64 (Mm.err i o r f)) ∧ Below w.heap.size w w' := by
 obtain ⟨m, hm⟩ : ∃ m, Mm.mx i o r = m := ⟨_, rfl⟩
 have hM := fun (w : World) => run_max3 (P := Tryz.prog) #[3, 3, 3] 3 i o r m hm w
 have hle := Mm.mx_le i o r
 rw [hm] at hle
 have HL := Lib.hid hle
 clear hle hm
 cases h1 : Mm.whole i with
 | false =>
  have HE : Hid (Mm.err i o r f = 2) := Lib.hid (by unfold Mm.err; rw [h1]; rfl)
  rw [HE.out]
  clear HE
  go_enter Tryz.func75, Tryz.ntmps75
  go_wp2_with (go_at_call 104; refine (whole_any _ _).mono ?_; rintro e w1 ⟨rfl, rfl⟩)
  go_ret
  exact ⟨rfl, by go_grown⟩
 | true =>
  cases h2 : Mm.whole o with
  | false =>
   have HE : Hid (Mm.err i o r f = 2) := Lib.hid (by unfold Mm.err; rw [h1, h2]; rfl)
   rw [HE.out]
   clear HE
   go_enter Tryz.func75, Tryz.ntmps75
   go_wp2_with (go_at_call 104; refine (whole_any _ _).mono ?_; rintro e w1 ⟨rfl, rfl⟩)
   go_ret
   exact ⟨rfl, by go_grown⟩
  | true =>
   cases h3 : Mm.whole r with
   | false =>
    have HE : Hid (Mm.err i o r f = 2) := Lib.hid (by unfold Mm.err; rw [h1, h2, h3]; rfl)
    rw [HE.out]
    clear HE
    go_enter Tryz.func75, Tryz.ntmps75
    go_wp2_with (go_at_call 104; refine (whole_any _ _).mono ?_; rintro e w1 ⟨rfl, rfl⟩)
    go_ret
    exact ⟨rfl, by go_grown⟩
   | true =>
    by_cases h4 : f < 0
    ·have HE : Hid (Mm.err i o r f = 2) := Lib.hid (by unfold Mm.err; rw [h1, h2, h3, decide_eq_false (by omega : ¬ 0 ≤ f)]; rfl)
     rw [HE.out]
     clear HE
     go_enter Tryz.func75, Tryz.ntmps75
     go_wp2_with (go_at_call 104; refine (whole_any _ _).mono ?_; rintro e w1 ⟨rfl, rfl⟩)
     go_ret
     exact ⟨rfl, by go_grown⟩
    ·by_cases h5 : r < 4
     ·have HE : Hid (Mm.err i o r f = 2) := Lib.hid (by unfold Mm.err; rw [h1, h2, h3, decide_eq_true (by omega : 0 ≤ f), decide_eq_false (by omega : ¬ 4 ≤ r)]; rfl)
      rw [HE.out]
      clear HE
      go_enter Tryz.func75, Tryz.ntmps75
      go_wp2_with (go_at_call 104; refine (whole_any _ _).mono ?_; rintro e w1 ⟨rfl, rfl⟩)
      go_ret
      exact ⟨rfl, by go_grown⟩
     ·by_cases h6 : 65536 < m
      ·have HE : Hid (Mm.err i o r f = 5) := Lib.hid (by rw [Mm.err_ok h1 h2 h3 (by omega) (by omega), if_neg (fun h => (HL.out.2 ⟨h.1, h.2.1, h.2.2.1⟩) h6)])
       rw [HE.out]
       clear HE
       go_enter Tryz.func75, Tryz.ntmps75
       go_wp2_with (go_at_call 104; refine (whole_any _ _).mono ?_; rintro e w1 ⟨rfl, rfl⟩)
       go_ret
       exact ⟨rfl, by go_grown⟩
      ·by_cases h7 : 262144 < f
       ·have HE : Hid (Mm.err i o r f = 5) := Lib.hid (by rw [Mm.err_ok h1 h2 h3 (by omega) (by omega), if_neg (fun h => absurd h7 (by omega))])
        rw [HE.out]
        clear HE
        go_enter Tryz.func75, Tryz.ntmps75
        go_wp2_with (go_at_call 104; refine (whole_any _ _).mono ?_; rintro e w1 ⟨rfl, rfl⟩)
        go_ret
        exact ⟨rfl, by go_grown⟩
       ·have HE : Hid (Mm.err i o r f = 0) := Lib.hid (by rw [Mm.err_ok h1 h2 h3 (by omega) (by omega), if_pos (by have := HL.out.1 h6; omega)])
        rw [HE.out]
        clear HE
        go_enter Tryz.func75, Tryz.ntmps75
        go_wp2_with (go_at_call 104; refine (whole_any _ _).mono ?_; rintro e w1 ⟨rfl, rfl⟩)
        go_ret
        exact ⟨rfl, by go_grown⟩
theorem Mm.whole_t {n : Int} (h : 0 ≤ n) (g : n % 4 = 0) : Mm.whole n = true := by unfold Mm.whole; rw [decide_eq_true h, g]; rfl
theorem Mm.whole_f {n : Int} (g : ¬ n % 4 = 0) : Mm.whole n = false := by unfold Mm.whole; rw [show (n % 4 == 0) = false by simpa using g, Bool.and_false]
theorem Mm.whole_n {n : Int} (h : n < 0) : Mm.whole n = false := by unfold Mm.whole; rw [decide_eq_false (by omega), Bool.false_and]
theorem Mm.err_neg {i o r f : Int} (h : i < 0 ∨ o < 0 ∨ r < 4 ∨ f < 0) : Mm.err i o r f = 2 := by
 unfold Mm.err
 rcases h with h | h | h | h
 ·rw [Mm.whole_n h]; rfl
 ·rw [Mm.whole_n h, Bool.and_false]; rfl
 ·rw [decide_eq_false (by omega : ¬ 4 ≤ r), Bool.and_false]; rfl
 ·rw [decide_eq_false (by omega : ¬ 0 ≤ f), Bool.and_false]; rfl
theorem Mm.bd {r : Int} (h : (Lit.int .i64 r).wf = true) : -9223372036854775808 ≤ r ∧ r ≤ 9223372036854775807 := by
 simp [Lit.wf, IntKind.min, IntKind.max, IntKind.signed, IntKind.bits] at h
 exact h
theorem Mm.w4 (r : Int) (h : (Lit.int .i64 r).wf = true) : wrap64 (r - 4) < 0 → r < 4 := by
 obtain ⟨h1, h2⟩ := Mm.bd h
 intro hw
 apply Int.lt_of_not_ge
 intro hge
 rw [Mm.w64 (by omega) (by omega)] at hw
 omega
theorem mrcheck_any (i o r f : Int) (w : World) (wr : (Lit.int .i64 r).wf = true) :
  Calls Tryz.prog 37 #[.agg #[.int .i64 i, .int .i64 o, .int .i64 r], .int .i64 f] w fun e w' => e = .returned (.int .i64 (Mm.err i o r f)) ∧ Below w.heap.size w w' := by
 obtain ⟨m, hm⟩ : ∃ m, Mm.mx i o r = m := ⟨_, rfl⟩
 have hM := fun (w : World) => run_max3 (P := Tryz.prog) #[3, 3, 3] 3 i o r m hm w
 have hle := Mm.mx_le i o r
 rw [hm] at hle
 have HL := Lib.hid hle
 clear hle hm
 obtain ⟨l, hl⟩ : ∃ l, Mm.mn i o (wrap64 (r - 4)) f = l := ⟨_, rfl⟩
 have hN := fun (w : World) => run_min4 (P := Tryz.prog) #[3, 3, 3, 3] 3 i o (wrap64 (r - 4)) f l hl w
 have hng := Mm.mn_neg i o (wrap64 (r - 4)) f
 rw [hl] at hng
 have HN := Lib.hid hng
 clear hng hl
 have HW := Lib.hid (Mm.w4 r wr)
 clear wr
 by_cases g0 : l < 0
 ·have HE : Hid (Mm.err i o r f = 2) := Lib.hid (by exact Mm.err_neg (by have h := HN.out.1 g0; have g := HW.out; omega))
  rw [HE.out]
  clear HE
  go_enter Tryz.func37, Tryz.ntmps37
  go_wp2
  go_ret
  exact ⟨rfl, by go_grown⟩
 ·by_cases g1 : r < 4
  ·have HE : Hid (Mm.err i o r f = 2) := Lib.hid (by exact Mm.err_neg (by omega))
   rw [HE.out]
   clear HE
   go_enter Tryz.func37, Tryz.ntmps37
   go_wp2
   go_ret
   exact ⟨rfl, by go_grown⟩
  ·have HP : Hid (0 ≤ i ∧ 0 ≤ o ∧ 0 ≤ f) := Lib.hid (by have h : ¬ (i < 0 ∨ o < 0 ∨ wrap64 (r - 4) < 0 ∨ f < 0) := fun x => g0 (HN.out.2 x); omega)
   have p1 := HP.out.1
   have p2 := HP.out.2.1
   have p3 := HP.out.2.2
   have p4 : 0 ≤ r := by omega
   by_cases g2 : i % 4 = 0
   ·by_cases g3 : o % 4 = 0
    ·by_cases g4 : r % 4 = 0
     ·have HX : Hid (Mm.err i o r f = if i ≤ 65536 ∧ o ≤ 65536 ∧ r ≤ 65536 ∧ f ≤ 262144 then 0 else 5) := Lib.hid (Mm.err_ok (Mm.whole_t p1 g2) (Mm.whole_t p2 g3) (Mm.whole_t p4 g4) p3 (by omega))
      by_cases h6 : 65536 < m
      ·have HE : Hid (Mm.err i o r f = 5) := Lib.hid (by rw [HX.out, if_neg (fun h => (HL.out.2 ⟨h.1, h.2.1, h.2.2.1⟩) h6)])
       rw [HE.out]
       clear HE
       go_enter Tryz.func37, Tryz.ntmps37
       go_wp2
       go_ret
       exact ⟨rfl, by go_grown⟩
      ·by_cases h7 : 262144 < f
       ·have HE : Hid (Mm.err i o r f = 5) := Lib.hid (by rw [HX.out, if_neg (fun h => absurd h7 (by omega))])
        rw [HE.out]
        clear HE
        go_enter Tryz.func37, Tryz.ntmps37
        go_wp2
        go_ret
        exact ⟨rfl, by go_grown⟩
       ·have HE : Hid (Mm.err i o r f = 0) := Lib.hid (by rw [HX.out, if_pos (by have := HL.out.1 h6; omega)])
        rw [HE.out]
        clear HE
        go_enter Tryz.func37, Tryz.ntmps37
        go_wp2
        go_ret
        exact ⟨rfl, by go_grown⟩
     ·have HE : Hid (Mm.err i o r f = 2) := Lib.hid (by unfold Mm.err; rw [Mm.whole_f (n := r) g4, Bool.and_false]; rfl)
      rw [HE.out]
      clear HE
      go_enter Tryz.func37, Tryz.ntmps37
      go_wp2
      go_ret
      exact ⟨rfl, by go_grown⟩
    ·have HE : Hid (Mm.err i o r f = 2) := Lib.hid (by unfold Mm.err; rw [Mm.whole_f (n := o) g3, Bool.and_false]; rfl)
     rw [HE.out]
     clear HE
     go_enter Tryz.func37, Tryz.ntmps37
     go_wp2
     go_ret
     exact ⟨rfl, by go_grown⟩
   ·have HE : Hid (Mm.err i o r f = 2) := Lib.hid (by unfold Mm.err; rw [Mm.whole_f (n := i) g2]; rfl)
    rw [HE.out]
    clear HE
    go_enter Tryz.func37, Tryz.ntmps37
    go_wp2
    go_ret
    exact ⟨rfl, by go_grown⟩
end Go.Proofs.YthciobjklhkkcaaGreat
end
section
namespace Go.Proofs.YthciobjklhkkcaaGreat
open Go.ChangeShapes Go.WideShapes Go.ChangeAt Go.RowKit
set_option maxHeartbeats 2000000
set_option maxRecDepth 100000
set_option linter.unusedVariables false

theorem Tryz.sizeBuilder : (Tryz.prog.info? 158).map (·.size) = some 2 := by kernel_rfl
abbrev BuildAt (B b : Nat) (p : Value) (bs : List Value) (w : World) : Prop := Lib.BuilderAt 158 5 B b p bs w
theorem check_used (b : Nat) (w : World) (h0 : w.cell? ⟨b, 0, none⟩ = some (.pointer (some ⟨b, 0, none⟩))) :
  Calls Tryz.prog 105 #[.pointer (some ⟨b, 0, none⟩)] w fun e w' => e = .returned (.tuple #[]) ∧ w' = w := by
 obtain ⟨j, hj, _⟩ := Option.map_eq_some_iff.1 Tryz.sizeBuilder
 go_enter Tryz.func105, Tryz.ntmps105
 go_wp2
 rw [Lib.run_neq_ptr_same w _ Tryz.underlying156 hj]
 go_wp2
 go_end0
 exact ⟨rfl, rfl⟩
theorem check_fresh (b : Nat) (w : World) (h0 : w.cell? ⟨b, 0, none⟩ = some (.pointer none)) (hsh : w.shape? b = some (158, 2)) (hfz : w.frozen? ⟨b, 0, none⟩ = false) :
  Calls Tryz.prog 105 #[.pointer (some ⟨b, 0, none⟩)] w fun e w' => e = .returned (.tuple #[]) ∧ w' = w.setCell ⟨b, 0, none⟩ (.pointer (some ⟨b, 0, none⟩)) := by
 obtain ⟨j, hj, hjs⟩ := Option.map_eq_some_iff.1 Tryz.sizeBuilder
 go_enter Tryz.func105, Tryz.ntmps105
 have hlies : liesAt Tryz.prog Tryz.prog.depth 158 (2 / Tryz.prog.cellsOf 158) 0 158 1 = true := by kernel_rfl
 go_wp2
 rw [Lib.run_to_unsafe w ⟨b, 0, none⟩ Tryz.underlying156 Tryz.underlying197 hj (by rw [hjs]; decide) hsh (Nat.zero_lt_succ 1)]
 simp only [Result.andThen]
 rw [Oper.upon_value]
 go_wp2
 rw [run_callFunc_extern Tryz.func141 (by kernel_rfl) (by kernel_rfl) (by kernel_rfl) (e := Extern.AbiNoEscape.same) (by kernel_rfl)]
 rw [Lib.run_noEscape]
 simp only [Result.andThen]
 rw [Oper.upon_value]
 go_wp2
 rw [Lib.run_from_unsafe w ⟨b, 0, none⟩ Tryz.underlying197 Tryz.underlying156 hj hsh hlies]
 simp only [Result.andThen]
 rw [Oper.upon_value]
 go_wp2
 go_end0
 exact ⟨rfl, rfl⟩
theorem check_any' (B b : Nat) (bs : List Value) (w : World) (p : Value) (hp : p = .pointer none ∨ p = .pointer (some ⟨b, 0, none⟩)) (h : BuildAt B b p bs w) :
  Calls Tryz.prog 105 #[.pointer (some ⟨b, 0, none⟩)] w fun e w' => e = .returned (.tuple #[]) ∧ BuildAt B b (.pointer (some ⟨b, 0, none⟩)) bs w' ∧ Below B w w' := by
 rcases hp with rfl | rfl
 ·refine (check_fresh b w h.cell0 h.shape h.frozen0).mono ?_
  rintro e w' ⟨rfl, rfl⟩
  exact ⟨rfl, h.used _, (Below.refl B w).setCell (p := ⟨b, 0, none⟩) h.1 _⟩
 ·refine (check_used b w h.cell0).mono ?_
  rintro e w' ⟨rfl, rfl⟩
  exact ⟨rfl, h, Below.refl B _⟩
theorem Tryz.infoByte : (Tryz.prog.info? 5).map (fun i => (i.zero, i.size, i.bytes)) = some (some (.int .u8 0), 1, 1) := by kernel_rfl
theorem wstring_any (B b : Nat) (bs : List Value) (s : ByteArray) (w : World) (p : Value) (hp : p = .pointer none ∨ p = .pointer (some ⟨b, 0, none⟩)) (h : BuildAt B b p bs w) (hlen : bs.length + s.size ≤ 16777216) (hBw : B ≤ w.heap.size) :
  Calls Tryz.prog 77 #[.pointer (some ⟨b, 0, none⟩), .string s] w fun e w' => e = .returned (.tuple #[.int .i64 s.size, .nilIface]) ∧ BuildAt B b (.pointer (some ⟨b, 0, none⟩)) (bs ++ Lib.strCells s) w' ∧ Below B w w' := by
 obtain ⟨i0, hi, hz0, hz1, hz2⟩ := info_parts Tryz.infoByte
 go_enter Tryz.func77, Tryz.ntmps77
 go_wp2_with (go_at_call 105; refine (check_any' B b bs _ p hp h).mono ?_)
 rintro e w1 ⟨rfl, h1, hb1⟩
 obtain ⟨hB, v, hbk, hown, hne⟩ := h1
 have c0 : w1.cell? ⟨b, 0, none⟩ = some (.pointer (some ⟨b, 0, none⟩)) := by rw [Lib.cell_of_heap hbk]; rfl
 have c1 : w1.cell? ⟨b, 1, none⟩ = some v := by rw [Lib.cell_of_heap hbk]; rfl
 go_wp2_with (at_builtin; refine Lib.wpList_append_own_string _ rfl _ _ 115 9 rfl B 5 i0 Tryz.underlying115 Tryz.underlying9 hi hz0 hz1 hz2 _ _ _ rfl hown s rfl (by unfold maxLen; omega) (by omega) (by have := hb1.size; omega) ?_)
 intro v' w2 hown' hgrow _
 have hlt : b < w1.heap.size := (Array.getElem?_eq_some_iff.1 hbk).1
 have hb2 : w2.heap[b]? = some (.cells #[.pointer (some ⟨b, 0, none⟩), v] 158 (0, 0)) := by
  rw [hgrow.block b hlt (fun e => hne e.symm)]
  exact hbk
 have d0 : w2.cell? ⟨b, 0, none⟩ = some (.pointer (some ⟨b, 0, none⟩)) := by rw [Lib.cell_of_heap hb2]; rfl
 have d1 : w2.cell? ⟨b, 1, none⟩ = some v := by rw [Lib.cell_of_heap hb2]; rfl
 have f1 : w2.frozen? ⟨b, 1, none⟩ = false := Lib.frozen_of_heap hb2 1
 obtain ⟨ao, n', cap, rfl⟩ : ∃ ao n' cap, v' = .slice ao n' cap := by
  rcases hown'.2 with ⟨hv, _⟩ | ⟨g, cap, cur, hv, _⟩ <;> exact ⟨_, _, _, hv⟩
 go_wp2
 go_ret2
 refine ⟨rfl, ?_, ?_⟩
 ·exact Lib.BuilderAt.put (T := 158) (e := 5) hB hb2 (bs' := bs ++ Lib.strCells s) (by simpa [Lib.strCells_length] using hown') (by decide)
 ·exact (hb1.grown hgrow (by have := hb1.size; omega) (fun k hk => (hown.lt k hk).1)).setCell (p := ⟨b, 1, none⟩) hB _
theorem bstring_some (B b : Nat) (l : List UInt8) (w : World) (p : Value) (h : BuildAt B b p (Lib.byteCells l) w) (h0 : l ≠ []) :
  Calls Tryz.prog 80 #[.pointer (some ⟨b, 0, none⟩)] w fun e w' => e = .returned (.string ⟨l.toArray⟩) ∧ Below B w w' := by
 obtain ⟨hB, v, hbk, hown, hne⟩ := h
 have hl0 : l.length ≠ 0 := by simpa using h0
 rw [Lib.byteCells_length] at hown
 obtain ⟨g, cap, cur, rfl, hbg, hg, hnc, hcm, hcs, htake⟩ : ∃ g cap cur, v = .slice (some ⟨g, 0, none⟩) l.length cap ∧ B ≤ g ∧ w.heap[g]? = some (.cells cur 5 (0, 0)) ∧ l.length ≤ cap ∧ cap ≤ maxLen ∧ cur.size = cap * 1 ∧ cur.toList.take (l.length * 1) = Lib.byteCells l := by
  rcases hown.2 with ⟨_, hz⟩ | ⟨g, cap, cur, hv, r⟩
  ·exact absurd hz hl0
  ·exact ⟨g, cap, cur, hv, r⟩
 have c1 : w.drew.cell? ⟨b, 1, none⟩ = some (.slice (some ⟨g, 0, none⟩) l.length cap) := by
  have : w.drew.heap[b]? = some (.cells #[p, .slice (some ⟨g, 0, none⟩) l.length cap] 158 (0, 0)) := hbk
  rw [Lib.cell_of_heap this]; rfl
 have hSD : (Builtin.unsafeSliceData_ #[115] 178 #[.slice (some ⟨g, 0, none⟩) l.length cap]).run Tryz.prog w.drew = .ok (.pointer (some ⟨g, 0, none⟩)) w.drew :=
  Lib.run_unsafeSliceData_row _ _ _ _ _ _ (by omega)
 have hUS : (Builtin.unsafeString_ #[178, 3] 9 #[.pointer (some ⟨g, 0, none⟩), .int .i64 l.length]).run Tryz.prog w.drew = .ok (.string ⟨l.toArray⟩) (w.drew.freeze ⟨g, 0, none⟩ l.length) := by
  refine Lib.run_unsafeString_row w.drew 178 3 9 5 Tryz.underlying178 (by kernel_rfl) g cur.size (by have hg' : w.drew.heap[g]? = some (.cells cur 5 (0, 0)) := hg; simp [World.shape?, hg']) l h0 (by omega) (by unfold maxLen at hcm; omega) ?_
  intro j x hx
  exact hown.cells (g := g) rfl j (.int .u8 x.toNat) (by simp [Lib.byteCells, hx])
 go_enter Tryz.func80, Tryz.ntmps80
 go_wp2
 go_region
 all_goals (go_wp2; go_ret; exact ⟨rfl, Lib.below_freeze (Below.drew (Below.refl B w)) (p := ⟨g, 0, none⟩) hbg _⟩)
theorem bstring_nil (B b : Nat) (p : Value) (w : World) (hbk : w.heap[b]? = some (.cells #[p, .slice none 0 0] 158 (0, 0))) :
  Calls Tryz.prog 80 #[.pointer (some ⟨b, 0, none⟩)] w fun e w' => e = .returned (.string ⟨#[]⟩) ∧ Below B w w' := by
 have c1 : w.drew.cell? ⟨b, 1, none⟩ = some (.slice none 0 0) := by
  have : w.drew.heap[b]? = some (.cells #[p, .slice none 0 0] 158 (0, 0)) := hbk
  rw [Lib.cell_of_heap this]; rfl
 have hSD : (Builtin.unsafeSliceData_ #[115] 178 #[.slice none 0 0]).run Tryz.prog w.drew = .ok (.pointer none) w.drew := rfl
 have hUS : (Builtin.unsafeString_ #[178, 3] 9 #[.pointer none, .int .i64 0]).run Tryz.prog w.drew = .ok (.string ⟨#[]⟩) w.drew := Lib.run_unsafeString_none _ _ _ _ _
 go_enter Tryz.func80, Tryz.ntmps80
 go_wp2
 go_region
 all_goals (go_wp2; go_ret; exact ⟨rfl, Below.drew (Below.refl B w)⟩)
/-- a builder of the call's own: fresh, or with bytes -/
def BRel (W : World) (b : Nat) (l : List UInt8) : Prop :=
 (l = [] ∧ W.heap[b]? = some (.cells #[.pointer none, .slice none 0 0] 158 (0, 0))) ∨ (l ≠ [] ∧ BuildAt b b (.pointer (some ⟨b, 0, none⟩)) (Lib.byteCells l) W)
theorem BRel.at' {W : World} {b : Nat} {l : List UInt8} (h : BRel W b l) : ∃ p : Value, (p = .pointer none ∨ p = .pointer (some ⟨b, 0, none⟩)) ∧ BuildAt b b p (Lib.byteCells l) W := by
 rcases h with ⟨rfl, h⟩ | ⟨_, h⟩
 ·exact ⟨_, Or.inl rfl, Nat.le_refl _, _, h, World.ownsRow_nil _ _ _ _, by simp [Value.ownBlock]⟩
 ·exact ⟨_, Or.inr rfl, h⟩
theorem BRel.lt {W : World} {b : Nat} {l : List UInt8} (h : BRel W b l) : b < W.heap.size := by
 rcases h with ⟨_, h⟩ | ⟨_, h⟩
 ·exact (Array.getElem?_eq_some_iff.1 h).1
 ·exact h.lt
theorem BRel.kept {W W' : World} {b : Nat} {l : List UInt8} (h : BRel W b l) (hb : Below W.heap.size W W') : BRel W' b l := by
 have hlt := h.lt
 rcases h with ⟨h0, h⟩ | ⟨h0, hB, v, hbk, hown, hne⟩
 ·exact Or.inl ⟨h0, (hb.block b hlt).trans h⟩
 ·exact Or.inr ⟨h0, hB, v, (hb.block b hlt).trans hbk, hown.kept (grown_below hb) (Classical.em _), hne⟩
theorem BRel.string {W : World} {b : Nat} {l : List UInt8} (h : BRel W b l) :
  Calls Tryz.prog 80 #[.pointer (some ⟨b, 0, none⟩)] W fun e w' => e = .returned (.string ⟨l.toArray⟩) ∧ Below b W w' := by
 rcases h with ⟨rfl, h⟩ | ⟨h0, h⟩
 ·exact bstring_nil b b _ W h
 ·exact bstring_some b b l W _ h h0
theorem BRel.write {W : World} {b : Nat} {l : List UInt8} (h : BRel W b l) (s : ByteArray) (hs : 0 < s.size) (hlen : l.length + s.size ≤ 16777216) :
  Calls Tryz.prog 77 #[.pointer (some ⟨b, 0, none⟩), .string s] W fun e w' => e = .returned (.tuple #[.int .i64 s.size, .nilIface]) ∧ BRel w' b (l ++ s.data.toList) ∧ Below b W w' := by
 have hlt := h.lt
 obtain ⟨p, hp, hb⟩ := h.at'
 refine (wstring_any b b (Lib.byteCells l) s W p hp hb (by rw [Lib.byteCells_length]; exact hlen) (by omega)).mono ?_
 rintro e w' ⟨rfl, h1, h2⟩
 refine ⟨rfl, Or.inr ⟨?_, ?_⟩, h2⟩
 ·intro e
  have h2 := (List.append_eq_nil_iff.1 e).2
  have h3 : s.size = 0 := by
   have e2 : s.data.toList.length = 0 := by rw [h2]; rfl
   rw [Array.length_toList] at e2
   exact e2
  omega
 ·rw [Lib.byteCells_append]; exact h1
theorem below_on {B : Nat} {w0 w w' : World} (h : Below B w0 w) (hb : Below w.heap.size w w') (hs : B ≤ w.heap.size) : Below B w0 w' := h.trans (hb.mono hs)
theorem arr_app (l m : List UInt8) : (⟨(l ++ m).toArray⟩ : ByteArray) = ⟨l.toArray⟩ ++ ⟨m.toArray⟩ := by
 apply ByteArray.ext
 rw [ByteArray.data_append]
 simp
theorem arr_data (b : ByteArray) : (⟨b.data.toList.toArray⟩ : ByteArray) = b := by
 apply ByteArray.ext
 simp
end Go.Proofs.YthciobjklhkkcaaGreat
end
section
namespace Go.Proofs.YthciobjklhkkcaaGreat
open Go.ChangeShapes Go.WideShapes Go.ChangeAt Go.RowKit

theorem wret_int {k : IntKind} {a b : Int} (h : a = b) : Ending.returned (.int k a) = .returned (.int k b) := by rw [h]
theorem wrap_any (n : Int) (w : World) :
  Calls Tryz.prog 81 #[.int .i64 n] w fun e w' => e = .returned (.int .i64 (Wd.wrap n)) ∧ w = w' := by
 go_enter Tryz.func81, Tryz.ntmps81
 go_wp2
 go_ret
 exact ⟨wret_int (Wd.and_ones n), rfl⟩

theorem count_any (n : Int) (w : World) :
  Calls Tryz.prog 83 #[.int .i64 n] w fun e w' => e = .returned (.int .i64 ((Wd.cnt n : Int))) ∧ w = w' := by
 go_enter Tryz.func83, Tryz.ntmps83
 go_wp2
 go_ret
 exact ⟨wret_int (Wd.and_31 n), rfl⟩

theorem product_any (a b : Int) (w : World) :
  Calls Tryz.prog 169 #[.int .i64 a, .int .i64 b] w fun e w' => e = .returned (.int .u64 (Wd.wrap a * Wd.wrap b)) ∧ w = w' := by
 have ha := Wd.wrap_bd a
 have hb := Wd.wrap_bd b
 go_enter Tryz.func169, Tryz.ntmps169
 go_wp2_with (go_at_call 81; refine (wrap_any _ _).mono ?_; rintro e w' ⟨rfl, rfl⟩)
 go_ret
 exact ⟨wret_int (Wd.prod_u64' a b), rfl⟩

theorem add_any (a b : Int) (w : World) :
  Calls Tryz.prog 57 #[.int .i64 a, .int .i64 b] w fun e w' => e = .returned (.int .i64 (Wd.add a b)) ∧ w = w' := by
 have ha := Wd.wrap_bd a
 have hb := Wd.wrap_bd b
 go_enter Tryz.func57, Tryz.ntmps57
 go_wp2_with (go_at_call 81; refine (wrap_any _ _).mono ?_; rintro e w' ⟨rfl, rfl⟩)
 go_ret
 exact ⟨wret_int (Wd.add_eq a b), rfl⟩

theorem sub_any (a b : Int) (w : World) :
  Calls Tryz.prog 168 #[.int .i64 a, .int .i64 b] w fun e w' => e = .returned (.int .i64 (Wd.sub a b)) ∧ w = w' := by
 have ha := Wd.wrap_bd a
 have hb := Wd.wrap_bd b
 go_enter Tryz.func168, Tryz.ntmps168
 go_wp2_with (go_at_call 81; refine (wrap_any _ _).mono ?_; rintro e w' ⟨rfl, rfl⟩)
 go_ret
 exact ⟨wret_int (Wd.sub_eq a b), rfl⟩

theorem mul_any (a b : Int) (w : World) :
  Calls Tryz.prog 153 #[.int .i64 a, .int .i64 b] w fun e w' => e = .returned (.int .i64 (Wd.mul a b)) ∧ w = w' := by
 have ha := Wd.wrap_bd a
 have hb := Wd.wrap_bd b
 go_enter Tryz.func153, Tryz.ntmps153
 go_wp2_with (go_at_call 169; refine (product_any _ _ _).mono ?_; rintro e w' ⟨rfl, rfl⟩)
 go_ret
 exact ⟨wret_int (Wd.mul_eq a b), rfl⟩

theorem high_any (a b : Int) (w : World) :
  Calls Tryz.prog 154 #[.int .i64 a, .int .i64 b] w fun e w' => e = .returned (.int .i64 (Wd.high a b)) ∧ w = w' := by
 have ha := Wd.wrap_bd a
 have hb := Wd.wrap_bd b
 go_enter Tryz.func154, Tryz.ntmps154
 go_wp2_with (go_at_call 169; refine (product_any _ _ _).mono ?_; rintro e w' ⟨rfl, rfl⟩)
 go_ret
 exact ⟨wret_int (Wd.high_eq a b), rfl⟩

theorem not_any (a : Int) (w : World) :
  Calls Tryz.prog 52 #[.int .i64 a] w fun e w' => e = .returned (.int .i64 (Wd.not a)) ∧ w = w' := by
 have ha := Wd.wrap_bd a
 go_enter Tryz.func52, Tryz.ntmps52
 go_wp2_with (go_at_call 81; refine (wrap_any _ _).mono ?_; rintro e w' ⟨rfl, rfl⟩)
 all_goals go_ret
 all_goals exact ⟨wret_int (Wd.not_eq a), rfl⟩

theorem and_any (a b : Int) (w : World) :
  Calls Tryz.prog 145 #[.int .i64 a, .int .i64 b] w fun e w' => e = .returned (.int .i64 (Wd.and a b)) ∧ w = w' := by
 go_enter Tryz.func145, Tryz.ntmps145
 go_wp2_with (go_at_call 81; refine (wrap_any _ _).mono ?_; rintro e w' ⟨rfl, rfl⟩)
 go_ret
 exact ⟨wret_int (Wd.and_eq a b), rfl⟩

theorem or_any (a b : Int) (w : World) :
  Calls Tryz.prog 149 #[.int .i64 a, .int .i64 b] w fun e w' => e = .returned (.int .i64 (Wd.or a b)) ∧ w = w' := by
 go_enter Tryz.func149, Tryz.ntmps149
 go_wp2_with (go_at_call 81; refine (wrap_any _ _).mono ?_; rintro e w' ⟨rfl, rfl⟩)
 go_ret
 exact ⟨wret_int (Wd.or_eq a b), rfl⟩

theorem xor_any (a b : Int) (w : World) :
  Calls Tryz.prog 82 #[.int .i64 a, .int .i64 b] w fun e w' => e = .returned (.int .i64 (Wd.xor a b)) ∧ w = w' := by
 go_enter Tryz.func82, Tryz.ntmps82
 go_wp2_with (go_at_call 81; refine (wrap_any _ _).mono ?_; rintro e w' ⟨rfl, rfl⟩)
 go_ret
 exact ⟨wret_int (Wd.xor_eq a b), rfl⟩

theorem shl_any (a n : Int) (w : World) :
  Calls Tryz.prog 150 #[.int .i64 a, .int .i64 n] w fun e w' => e = .returned (.int .i64 (Wd.shl a n)) ∧ w = w' := by
 have ha := Wd.wrap_bd a
 have hn := Wd.cnt_lt n
 go_enter Tryz.func150, Tryz.ntmps150
 go_wp2_with (first | (go_at_call 81; refine (wrap_any _ _).mono ?_; rintro e w' ⟨rfl, rfl⟩) | (go_at_call 83; refine (count_any _ _).mono ?_; rintro e w' ⟨rfl, rfl⟩))
 go_ret
 exact ⟨wret_int (Wd.shl_eq a n), rfl⟩

theorem shr_any (a n : Int) (w : World) :
  Calls Tryz.prog 106 #[.int .i64 a, .int .i64 n] w fun e w' => e = .returned (.int .i64 (Wd.shr a n)) ∧ w = w' := by
 have ha := Wd.wrap_bd a
 have hn := Wd.cnt_lt n
 go_enter Tryz.func106, Tryz.ntmps106
 go_wp2_with (first | (go_at_call 81; refine (wrap_any _ _).mono ?_; rintro e w' ⟨rfl, rfl⟩) | (go_at_call 83; refine (count_any _ _).mono ?_; rintro e w' ⟨rfl, rfl⟩))
 go_ret
 exact ⟨wret_int (rfl), rfl⟩

theorem bit_any (a n : Int) (w : World) :
  Calls Tryz.prog 170 #[.int .i64 a, .int .i64 n] w fun e w' => e = .returned (.int .i64 (Wd.bit a n)) ∧ w = w' := by
 have ha := Wd.shr_bd a n
 go_enter Tryz.func170, Tryz.ntmps170
 go_wp2_with (go_at_call 106; refine (shr_any _ _ _).mono ?_; rintro e w' ⟨rfl, rfl⟩)
 go_ret
 exact ⟨wret_int (Wd.bit_eq a n), rfl⟩

theorem ror_any (a n : Int) (w : World) :
  Calls Tryz.prog 167 #[.int .i64 a, .int .i64 n] w fun e w' => e = .returned (.int .i64 (Wd.ror a n)) ∧ w = w' := by
 have ha := Wd.wrap_bd a
 have hn := Wd.cnt_lt n
 go_enter Tryz.func167, Tryz.ntmps167
 go_wp2_with (first | (go_at_call 106; refine (shr_any _ _ _).mono ?_; rintro e w' ⟨rfl, rfl⟩) | (go_at_call 83; refine (count_any _ _).mono ?_; rintro e w' ⟨rfl, rfl⟩) | (go_at_call 81; refine (wrap_any _ _).mono ?_; rintro e w' ⟨rfl, rfl⟩))
 go_ret
 exact ⟨wret_int (Wd.ror_eq a n), rfl⟩

theorem rwrap_any (n : Int) (w : World) :
  Calls Tryz.prog 88 #[.int .i64 n] w fun e w' => e = .returned (.int .i64 (Wd.wrap n)) ∧ w = w' := by
 go_enter Tryz.func88, Tryz.ntmps88
 go_wp2
 go_ret
 exact ⟨wret_int (Wd.rwrap_eq n), rfl⟩

theorem int_is {k : IntKind} {a b : Int} (h : a = b) : Value.int k a = .int k b := by rw [h]

theorem sar_any (a n : Int) (w : World) :
  Calls Tryz.prog 166 #[.int .i64 a, .int .i64 n] w fun e w' => e = .returned (.int .i64 (Wd.sar a n)) ∧ w = w' := by
 have hn := Wd.cnt_lt n
 have hA := Wd.wn a
 have hs := Wd.bit_bd a 31
 go_enter Tryz.func166, Tryz.ntmps166
 go_wp2_with (first | (go_at_call 170; refine (bit_any _ _ _).mono ?_; rintro e w' ⟨rfl, rfl⟩) | (go_at_call 106; refine (shr_any _ _ _).mono ?_; rintro e w' ⟨rfl, rfl⟩) | (go_at_call 83; refine (count_any _ _).mono ?_; rintro e w' ⟨rfl, rfl⟩))
 go_loop [6, 15] (fun o i => ∃ k : Nat, k ≤ Wd.cnt n ∧ i = .int .i64 k ∧ o = .int .i64 (Wd.sarW (Wd.wrap a).toNat (Wd.cnt n) k : Int)) (fun _ i => Wd.cnt n - (intOf i).toNat)
 case atStart => exact ⟨0, Nat.zero_le _, rfl, int_is (by rw [Wd.sarW_zero, Wd.shr_nat])⟩
 case round =>
  obtain ⟨k, hk, rfl, rfl⟩ := hrel
  by_cases hlt : k < Wd.cnt n
  ·go_wp2
   go_round
   case rel => exact ⟨k + 1, by omega, by go_num, int_is (Wd.sarW_round a _ _ (by omega) hlt)⟩
   case measure => simp [intOf]; omega
  ·obtain rfl : k = Wd.cnt n := by omega
   go_wp2
   go_ret
   exact ⟨rfl, rfl⟩

theorem select_any (m a b : Int) (w : World) :
  Calls Tryz.prog 155 #[.int .i64 m, .int .i64 a, .int .i64 b] w fun e w' => e = .returned (.int .i64 (Wd.select m a b)) ∧ w = w' := by
 go_enter Tryz.func155, Tryz.ntmps155
 go_wp2
 go_loop [7, 10] (fun o i => ∃ k : Nat, k ≤ 32 ∧ i = .int .i64 k ∧ o = .int .i64 (Wd.bot (Wd.select m a b) k)) (fun _ i => 32 - (intOf i).toNat)
 case atStart => exact ⟨0, Nat.zero_le _, rfl, int_is (by rw [Wd.bot_0])⟩
 case round =>
  obtain ⟨k, hk, rfl, rfl⟩ := hrel
  by_cases hlt : k < 32
  ·by_cases hm : (Wd.bit m (k : Int) == 1) = true
   ·go_wp2_with (go_at_call 170; refine (bit_any _ _ _).mono ?_; rintro e w' ⟨rfl, rfl⟩)
    go_round
    case rel => exact ⟨k + 1, by omega, by go_num, int_is (Wd.up_sel_t m a b k hlt hm)⟩
    case measure => simp [intOf]; omega
   ·have hm' : (Wd.bit m (k : Int) == 1) = false := by simpa using hm
    clear hm
    go_wp2_with (go_at_call 170; refine (bit_any _ _ _).mono ?_; rintro e w' ⟨rfl, rfl⟩)
    go_round
    case rel => exact ⟨k + 1, by omega, by go_num, int_is (Wd.up_sel_f m a b k hlt hm')⟩
    case measure => simp [intOf]; omega
  ·obtain rfl : k = 32 := by omega
   go_wp2
   go_ret
   exact ⟨wret_int ((Wd.isWord_select m a b).bot_32), rfl⟩

end Go.Proofs.YthciobjklhkkcaaGreat
end
