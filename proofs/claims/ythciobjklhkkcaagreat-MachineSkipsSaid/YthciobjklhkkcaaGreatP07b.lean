/-
Package image: what read and Build return, and the document's Build.
Plain mathematics of a machine that runs: a step, as the document has it, over whatever tells of memory; and what runs of steps keep. It names nothing of the translated program.
What package decode's small functions return.
Plain mathematics of bytes as instructions: an instruction's bytes, with whatever behind them, are decoded as it, and what is decoded has just those bytes. It names nothing of the translated program.
-/
import Derived.Test.YthciobjklhkkcaaGreatP06a
import Derived.Test.YthciobjklhkkcaaGreatP04a
import Derived.Test.YthciobjklhkkcaaGreatP06b
import Derived.Deep.QuietTactic
import Derived.BigQuiet
import Derived.Test.YthciobjklhkkcaaGreatP03b
import Derived.Lib.Hide
section
namespace Go.Proofs.YthciobjklhkkcaaGreat
open Go.ChangeShapes Go.WideShapes Go.ChangeAt Go.RowKit
set_option maxHeartbeats 8000000
set_option maxRecDepth 100000
set_option linter.unusedVariables false
set_option linter.unusedSimpArgs false

theorem at_lit (s : ByteArray) (k : Int) (j : Nat) (A : Int) (w : World) (hkj : (j : Int) = k) (hs : 64 ≤ s.size) (hk : j = 1 ∨ j = 2 ∨ j = 7 ∨ j = 8 ∨ j = 9 ∨ j = 10) (h : Hid (Im.at s j = A)) :
  Calls Tryz.prog 74 #[.string s, .int .i64 k] w fun e w' => e = .returned (.int .i64 A) ∧ w = w' := by
 have := at_any s j w hs hk
 rw [h.out, hkj] at this
 exact this
theorem iread_any (s : ByteArray) (w : World) (hs : Hid (64 ≤ s.size)) :
  Calls Tryz.prog 47 #[.string s] w fun e w' => e = .returned (.agg #[.int .i64 (Im.read s 2).r, .int .i64 (Im.read s 2).h, .int .i64 (Im.read s 2).i, .int .i64 (Im.read s 2).o, .int .i64 (Im.read s 2).l, .int .i64 (Im.read s 2).m]) ∧ Below w.heap.size w w' := by
 obtain ⟨A1, h1⟩ : ∃ A, Im.at s 1 = A := ⟨_, rfl⟩
 obtain ⟨A2, h2⟩ : ∃ A, Im.at s 2 = A := ⟨_, rfl⟩
 obtain ⟨A7, h7⟩ : ∃ A, Im.at s 7 = A := ⟨_, rfl⟩
 obtain ⟨A8, h8⟩ : ∃ A, Im.at s 8 = A := ⟨_, rfl⟩
 obtain ⟨A9, h9⟩ : ∃ A, Im.at s 9 = A := ⟨_, rfl⟩
 obtain ⟨A10, h10⟩ : ∃ A, Im.at s 10 = A := ⟨_, rfl⟩
 have hE : Im.read s 2 = ⟨A1 - 1, A2 - 1, A7, A8, A9, A10⟩ := by unfold Im.read; rw [h1, h2, h7, h8, h9, h10]
 rw [hE]
 obtain ⟨b1, c1⟩ := Im.at_bd s 1
 obtain ⟨b2, c2⟩ := Im.at_bd s 2
 rw [h1] at b1 c1
 rw [h2] at b2 c2
 have H1 := Lib.hid h1
 have H2 := Lib.hid h2
 have H7 := Lib.hid h7
 have H8 := Lib.hid h8
 have H9 := Lib.hid h9
 have H10 := Lib.hid h10
 clear h1 h2 h7 h8 h9 h10 hE
 go_enter Tryz.func47, Tryz.ntmps47
 go_wp2_with (go_at_call 74; first
  | (with_reducible refine (at_lit s 1 1 A1 _ (by decide) hs.out (by decide) H1).mono ?_; rintro e w1 ⟨rfl, rfl⟩)
  | (with_reducible refine (at_lit s 2 2 A2 _ (by decide) hs.out (by decide) H2).mono ?_; rintro e w1 ⟨rfl, rfl⟩)
  | (with_reducible refine (at_lit s 7 7 A7 _ (by decide) hs.out (by decide) H7).mono ?_; rintro e w1 ⟨rfl, rfl⟩)
  | (with_reducible refine (at_lit s 8 8 A8 _ (by decide) hs.out (by decide) H8).mono ?_; rintro e w1 ⟨rfl, rfl⟩)
  | (with_reducible refine (at_lit s 9 9 A9 _ (by decide) hs.out (by decide) H9).mono ?_; rintro e w1 ⟨rfl, rfl⟩)
  | (with_reducible refine (at_lit s 10 10 A10 _ (by decide) hs.out (by decide) H10).mono ?_; rintro e w1 ⟨rfl, rfl⟩))
 exact bodyPost_ret (v := .agg #[.int .i64 (A1 - 1), .int .i64 (A2 - 1), .int .i64 A7, .int .i64 A8, .int .i64 A9, .int .i64 A10]) (by simp [results, Tryz.results47, go_sem]) rfl ⟨rfl, by go_grown⟩
theorem icheck_lit (r h i o l m n E : Int) (w : World) (he : Hid (Im.err ⟨r, h, i, o, l, m⟩ n = E)) :
  Calls Tryz.prog 48 #[.agg #[.int .i64 r, .int .i64 h, .int .i64 i, .int .i64 o, .int .i64 l, .int .i64 m], .int .i64 n] w fun e w' => e = .returned (.int .i64 E) ∧ Below w.heap.size w w' := by
 have := icheck_any r h i o l m n w
 rw [he.out] at this
 exact this
theorem Im.bds {r h i o l m n : Int} (he : Im.err ⟨r, h, i, o, l, m⟩ n = 0) : (r ≤ 1000000 ∧ 0 ≤ r) ∧ (h ≤ 1000000 ∧ 0 ≤ h) := by
 obtain ⟨h0, m0, m1, hr, hh⟩ := Im.err_ok he
 have hb := Im.mm_ok h0
 unfold Im.start at hr hh
 rw [decide_eq_true_eq] at hr hh
 dsimp only at hr hh
 omega
theorem front_lit (r h i o l m : Int) (R : ByteArray) (w : World) (hb : Hid ((r ≤ 1000000 ∧ 0 ≤ r) ∧ (h ≤ 1000000 ∧ 0 ≤ h))) (hR : Hid (Im.F ⟨r, h, i, o, l, m⟩ = R)) :
  Calls Tryz.prog 49 #[.agg #[.int .i64 r, .int .i64 h, .int .i64 i, .int .i64 o, .int .i64 l, .int .i64 m]] w fun e w' => e = .returned (.string R) ∧ Below w.heap.size w w' := by
 have := front_any r h i o l m w hb
 rw [hR.out] at this
 exact this
theorem words_lit (r h i o l m : Int) (R : ByteArray) (w : World) (hb : Hid ((r ≤ 1000000 ∧ 0 ≤ r) ∧ (h ≤ 1000000 ∧ 0 ≤ h))) (hR : Hid (Im.F ⟨r, h, i, o, l, m⟩ = R)) :
  Calls Tryz.prog 39 #[.agg #[.int .i64 r, .int .i64 h, .int .i64 i, .int .i64 o, .int .i64 l, .int .i64 m]] w fun e w' => e = .returned (.string R) ∧ Below w.heap.size w w' := by
 have := iwords_any r h i o l m w hb.out
 rw [hR.out] at this
 exact this
theorem rcheck_lit (i o r f E : Int) (w : World) (wr : (Lit.int .i64 r).wf = true) (h : Hid (Mm.err i o r f = E)) :
  Calls Tryz.prog 37 #[.agg #[.int .i64 i, .int .i64 o, .int .i64 r], .int .i64 f] w fun e w' => e = .returned (.int .i64 E) ∧ Below w.heap.size w w' := by
 have := mrcheck_any i o r f w wr
 rw [h.out] at this
 exact this
theorem rbuild_any (r h i o l m : Int) (c : ByteArray) (w : World) (hc : c.size ≤ 600000) (wl : Hid ((Lit.int .i64 l).wf = true)) :
  Calls Tryz.prog 23 #[.agg #[.int .i64 r, .int .i64 h, .int .i64 i, .int .i64 o, .int .i64 l, .int .i64 m], .string c] w fun e w' => e = .returned (.tuple #[.string (Im.build ⟨r, h, i, o, l, m⟩ c).1, .int .i64 (Im.build ⟨r, h, i, o, l, m⟩ c).2]) ∧ Below w.heap.size w w' := by
 have hcast : ((64 + c.size : Nat) : Int) = 64 + (c.size : Int) := by omega
 obtain ⟨n, hn⟩ : ∃ n, 64 + (c.size : Int) = n := ⟨_, rfl⟩
 obtain ⟨E, hE⟩ : ∃ E, Mm.err i o l n = E := ⟨_, rfl⟩
 have HM : Hid (Mm.err i o l (64 + (c.size : Int)) = E) := Lib.hid (by rw [hn]; exact hE)
 clear hE hn n
 by_cases hz : E = 0
 ·subst hz
  by_cases hm0 : m < 0
  ·have hres : Im.build ⟨r, h, i, o, l, m⟩ c = (⟨#[]⟩, 2) := by unfold Im.build; rw [hcast, Im.err_arg (x := ⟨r, h, i, o, l, m⟩) HM.out (fun g => by have := g.1; dsimp only at this; omega), if_neg (by decide)]
   rw [hres]
   clear hres hcast
   go_enter Tryz.func23, Tryz.ntmps23
   go_wp2_with (first | (go_at_call 37; refine (rcheck_lit _ _ _ _ _ _ wl.out HM).mono ?_; rintro e w1 ⟨rfl, hb1⟩; have HC := Lib.hid ((Im.HdAt.new w r h i o l m 61).kept hb1); obtain ⟨c0, c1, c2, c3, c4, c5⟩ := HC.out; have HB := Lib.hid (((Below.refl w.heap.size w).alloc (Nat.le_refl _) _).trans (hb1.mono (by simp))); clear hb1) | (go_at_call 38; refine (place_any _ _ _).mono ?_; rintro e w2 ⟨rfl, rfl⟩))
   go_ret2
   exact ⟨rfl, HB.out⟩
  ·by_cases hm1 : 2 < m
   ·have hres : Im.build ⟨r, h, i, o, l, m⟩ c = (⟨#[]⟩, 2) := by unfold Im.build; rw [hcast, Im.err_arg (x := ⟨r, h, i, o, l, m⟩) HM.out (fun g => by have := g.2.1; dsimp only at this; omega), if_neg (by decide)]
    rw [hres]
    clear hres hcast
    go_enter Tryz.func23, Tryz.ntmps23
    go_wp2_with (first | (go_at_call 37; refine (rcheck_lit _ _ _ _ _ _ wl.out HM).mono ?_; rintro e w1 ⟨rfl, hb1⟩; have HC := Lib.hid ((Im.HdAt.new w r h i o l m 61).kept hb1); obtain ⟨c0, c1, c2, c3, c4, c5⟩ := HC.out; have HB := Lib.hid (((Below.refl w.heap.size w).alloc (Nat.le_refl _) _).trans (hb1.mono (by simp))); clear hb1) | (go_at_call 38; refine (place_any _ _ _).mono ?_; rintro e w2 ⟨rfl, rfl⟩))
    go_ret2
    exact ⟨rfl, HB.out⟩
   ·cases hs : Im.start r (64 + (c.size : Int)) with
    | false =>
     have hres : Im.build ⟨r, h, i, o, l, m⟩ c = (⟨#[]⟩, 2) := by unfold Im.build; rw [hcast, Im.err_arg (x := ⟨r, h, i, o, l, m⟩) HM.out (fun g => by have := g.2.2.1; dsimp only at this; rw [hs] at this; cases this), if_neg (by decide)]
     rw [hres]
     clear hres hcast
     go_enter Tryz.func23, Tryz.ntmps23
     go_wp2_with (first | (go_at_call 37; refine (rcheck_lit _ _ _ _ _ _ wl.out HM).mono ?_; rintro e w1 ⟨rfl, hb1⟩; have HC := Lib.hid ((Im.HdAt.new w r h i o l m 61).kept hb1); obtain ⟨c0, c1, c2, c3, c4, c5⟩ := HC.out; have HB := Lib.hid (((Below.refl w.heap.size w).alloc (Nat.le_refl _) _).trans (hb1.mono (by simp))); clear hb1) | (go_at_call 38; refine (place_any _ _ _).mono ?_; rintro e w2 ⟨rfl, rfl⟩))
     go_ret2
     exact ⟨rfl, HB.out⟩
    | true =>
     cases hh : Im.start h (64 + (c.size : Int)) with
     | false =>
      have hres : Im.build ⟨r, h, i, o, l, m⟩ c = (⟨#[]⟩, 2) := by unfold Im.build; rw [hcast, Im.err_arg (x := ⟨r, h, i, o, l, m⟩) HM.out (fun g => by have := g.2.2.2; dsimp only at this; rw [hh] at this; cases this), if_neg (by decide)]
      rw [hres]
      clear hres hcast
      go_enter Tryz.func23, Tryz.ntmps23
      go_wp2_with (first | (go_at_call 37; refine (rcheck_lit _ _ _ _ _ _ wl.out HM).mono ?_; rintro e w1 ⟨rfl, hb1⟩; have HC := Lib.hid ((Im.HdAt.new w r h i o l m 61).kept hb1); obtain ⟨c0, c1, c2, c3, c4, c5⟩ := HC.out; have HB := Lib.hid (((Below.refl w.heap.size w).alloc (Nat.le_refl _) _).trans (hb1.mono (by simp))); clear hb1) | (go_at_call 38; refine (place_any _ _ _).mono ?_; rintro e w2 ⟨rfl, rfl⟩))
      go_ret2
      exact ⟨rfl, HB.out⟩
     | true =>
      have hE := Im.err_good (x := ⟨r, h, i, o, l, m⟩) HM.out ⟨by dsimp only; omega, by dsimp only; omega, hs, hh⟩
      obtain ⟨R, hR⟩ : ∃ R, Im.F ⟨r, h, i, o, l, m⟩ = R := ⟨_, rfl⟩
      have hres : Im.build ⟨r, h, i, o, l, m⟩ c = (R ++ c, 0) := by unfold Im.build; rw [hcast, if_pos hE, hR]
      have hsz : R.size = 64 := by rw [← hR]; exact Im.F_size _
      have hcat : ¬ 9223372036854775807 < R.size + c.size := by omega
      rw [hres]
      have HR := Lib.hid hR
      have HBD := Lib.hid (Im.bds hE)
      clear hres hE hcast hR hsz
      go_enter Tryz.func23, Tryz.ntmps23
      go_wp2_with (first | (go_at_call 37; refine (rcheck_lit _ _ _ _ _ _ wl.out HM).mono ?_; rintro e w1 ⟨rfl, hb1⟩; have HC := Lib.hid ((Im.HdAt.new w r h i o l m 61).kept hb1); obtain ⟨c0, c1, c2, c3, c4, c5⟩ := HC.out; have HB := Lib.hid (((Below.refl w.heap.size w).alloc (Nat.le_refl _) _).trans (hb1.mono (by simp))); clear hb1) | (go_at_call 38; refine (place_any _ _ _).mono ?_; rintro e w2 ⟨rfl, rfl⟩) | (go_at_call 39; refine (words_lit _ _ _ _ _ _ _ _ HBD HR).mono ?_; rintro e w2 ⟨rfl, hb2⟩; have HB2 := Lib.hid (below_on HB.out hb2 HB.out.size); clear hb2))
      go_ret2
      exact ⟨rfl, HB2.out⟩
 ·have hx := Im.err_bad (x := ⟨r, h, i, o, l, m⟩) (n := 64 + (c.size : Int)) (by rw [HM.out]; exact hz)
  have hx2 : Im.err ⟨r, h, i, o, l, m⟩ (64 + (c.size : Int)) = E := hx.trans HM.out
  have hres : Im.build ⟨r, h, i, o, l, m⟩ c = (⟨#[]⟩, E) := by unfold Im.build; rw [hcast, hx2, if_neg hz]
  rw [hres]
  clear hres hcast hx hx2
  go_enter Tryz.func23, Tryz.ntmps23
  go_wp2_with (first | (go_at_call 37; refine (rcheck_lit _ _ _ _ _ _ wl.out HM).mono ?_; rintro e w1 ⟨rfl, hb1⟩; have HC := Lib.hid ((Im.HdAt.new w r h i o l m 61).kept hb1); obtain ⟨c0, c1, c2, c3, c4, c5⟩ := HC.out; have HB := Lib.hid (((Below.refl w.heap.size w).alloc (Nat.le_refl _) _).trans (hb1.mono (by simp))); clear hb1) | (go_at_call 38; refine (place_any _ _ _).mono ?_; rintro e w2 ⟨rfl, rfl⟩))
  go_ret2
  exact ⟨rfl, HB.out⟩
end Go.Proofs.YthciobjklhkkcaaGreat
end
section
namespace Go.Proofs.YthciobjklhkkcaaGreat.Mc
open Go.RowKit

/-- a fault -/
structure F where
  kind : Int
  step : Int
  reg : Int
  bit : Int
def none : F := ⟨0, 0, 0, 0⟩
/-- what can be seen of a step -/
structure Ev where
  kind : Int
  pc : Int
  addr : Int
  cyc : Int
structure M where
  st : Cs.St
  mem : Int → UInt8
  done : Bool
/-- what a machine is laid out as: its flash, its handler, and what memory tells: of an access its error, of a load its number, of a store what it leaves -/
structure X where
  fl : ByteArray
  h : Int
  fe : Int → Int → Bool → Int
  ld : (Int → UInt8) → Int → Int → Int
  pt : (Int → UInt8) → Int → Int → Int → (Int → UInt8)

def bel (n c : Int) : Bool := decide (0 ≤ n) && decide (n < c)
def mayF (f : F) : Bool := f.kind == 0 || f.kind == 1 || (f.kind == 2 && (bel f.reg 15 && bel f.bit 32)) || (f.kind == 3 && bel f.bit 4)
def okF (f : F) : Bool := decide (0 ≤ f.step) && mayF f
def real (f : F) : F := if okF f then f else none
/-- what a step makes of a fault, whose number it does not look at -/
def realP (f : F) : F := if mayF f then f else none
def hit (s : Cs.St) (f : F) : Cs.St :=
  if f.kind == 2 then Cs.put s f.reg.toNat (Wd.flip (s.r f.reg.toNat) f.bit)
  else if f.kind == 3 then { s with n := s.n != (f.bit == 0), z := s.z != (f.bit == 1), c := s.c != (f.bit == 2), v := s.v != (f.bit == 3) }
  else s
def trap (x : X) (m : M) (a : Int) : M × Ev := ({ m with st := { m.st with pc := x.h } }, ⟨2, m.st.pc, a, 12⟩)
def code (x : X) (pc : Int) : ByteArray := x.fl.extract pc.toNat x.fl.size
/-- what an instruction loads or stores: the address, what was loaded, what memory is then, memory's error -/
structure Ac where
 addr : Int
 ld : Int
 mem : Int → UInt8
 err : Int
def acc (x : X) (m : M) (i : Th.Ins) : Ac :=
 if Cs.accessB i = true then
  if (Cs.access m.st i).write = true then ⟨(Cs.access m.st i).addr, 0, if x.fe (Cs.access m.st i).addr (Cs.access m.st i).size true = 0 then x.pt m.mem (Cs.access m.st i).addr (Cs.access m.st i).size (Cs.access m.st i).value else m.mem, x.fe (Cs.access m.st i).addr (Cs.access m.st i).size true⟩
  else ⟨(Cs.access m.st i).addr, if x.fe (Cs.access m.st i).addr (Cs.access m.st i).size false = 0 then x.ld m.mem (Cs.access m.st i).addr (Cs.access m.st i).size else 0, m.mem, x.fe (Cs.access m.st i).addr (Cs.access m.st i).size false⟩
 else ⟨0, 0, m.mem, 0⟩
/-- an instruction that is fetched is done -/
def does (x : X) (m : M) (i : Th.Ins) : M × Ev :=
 if (acc x m i).err ≠ 0 then trap x m (acc x m i).addr
 else (⟨Cs.stepS m.st i (acc x m i).ld, (acc x m i).mem, !Cs.stepB i⟩, ⟨0, m.st.pc, (acc x m i).addr, Cs.cycles m.st i⟩)
/-- behind the fault: what is fetched is done -/
def act (x : X) (m : M) (skip : Bool) : M × Ev :=
 if m.st.pc % 2 ≠ 0 ∨ (x.fl.size : Int) ≤ m.st.pc then trap x m 0
 else if De.err (code x m.st.pc) ≠ 0 then trap x m 0
 else if skip then ({ m with st := { m.st with pc := Wd.add m.st.pc (De.len (code x m.st.pc)) } }, ⟨1, m.st.pc, 0, 1⟩)
 else does x m (De.ins (code x m.st.pc))
theorem acc_same (x : X) (m : M) (i : Th.Ins) (h : (acc x m i).err ≠ 0) : (acc x m i).mem = m.mem := by
 unfold acc at h ⊢
 split
 ·split
  ·next h1 h2 =>
   rw [if_pos h1, if_pos h2] at h
   simp only at h ⊢
   rw [if_neg h]
  ·rfl
 ·rfl
def step (x : X) (m : M) (f : F) : M × Ev := act x { m with st := hit m.st (real f) } ((real f).kind == 1)
def stepP (x : X) (m : M) (f : F) : M × Ev := act x { m with st := hit m.st (realP f) } ((realP f).kind == 1)
theorem stepP_eq (x : X) (m : M) (f : F) (h : 0 ≤ f.step) : stepP x m f = step x m f := by
 have e : realP f = real f := by unfold realP real okF; rw [decide_eq_true h, Bool.true_and]
 unfold stepP step; rw [e]
/-- the fault of the k-th step -/
def now (f : F) (k : Nat) : F := if f.step = (k : Int) then f else none
/-- at most so many steps from the k-th on: the machine behind them, what was seen, how many began at the handler -/
def go (x : X) (f : F) : Nat → Nat → M → M × List Ev × Nat
  | 0, _, m => (m, [], 0)
  | n + 1, k, m =>
    if m.done then (m, [], 0)
    else
      let s := step x m (now f k)
      let r := go x f n (k + 1) s.1
      (r.1, s.2 :: r.2.1, r.2.2 + (if m.st.pc = x.h then 1 else 0))
def cyc (l : List Ev) : Int := (l.map Ev.cyc).foldr (· + ·) 0

theorem go_yes (x : X) (f : F) (n k : Nat) (m : M) (h : m.done = true) : go x f n k m = (m, [], 0) := by
  cases n with
  | zero => rfl
  | succ n => unfold go; rw [if_pos h]
theorem go_no (x : X) (f : F) (n k : Nat) (m : M) (h : m.done = false) : go x f (n + 1) k m =
    ((go x f n (k + 1) (step x m (now f k)).1).1, (step x m (now f k)).2 :: (go x f n (k + 1) (step x m (now f k)).1).2.1, (go x f n (k + 1) (step x m (now f k)).1).2.2 + (if m.st.pc = x.h then 1 else 0)) := by
  show (if m.done = true then _ else _) = _
  rw [if_neg (by rw [h]; decide)]
theorem go_len (x : X) (f : F) : ∀ (n k : Nat) (m : M), (go x f n k m).2.1.length ≤ n
  | 0, _, _ => Nat.le_refl _
  | n + 1, k, m => by
    cases h : m.done
    · rw [go_no x f n k m h]
      have := go_len x f n (k + 1) (step x m (now f k)).1
      simp only [List.length_cons]
      omega
    · rw [go_yes x f _ k m h]; exact Nat.zero_le _
theorem go_full (x : X) (f : F) : ∀ (n k : Nat) (m : M), (go x f n k m).1.done = false → (go x f n k m).2.1.length = n
  | 0, _, _, _ => rfl
  | n + 1, k, m, hd => by
    cases h : m.done
    · rw [go_no x f n k m h] at hd ⊢
      have := go_full x f n (k + 1) (step x m (now f k)).1 hd
      simp only [List.length_cons]
      omega
    · rw [go_yes x f _ k m h] at hd; rw [h] at hd; cases hd
/-- a run that halted is the same with more budget -/
theorem go_more (x : X) (f : F) (j : Nat) : ∀ (n k : Nat) (m : M), (go x f n k m).1.done = true → go x f (n + j) k m = go x f n k m
  | 0, k, m, h => by rw [go_yes x f _ k m h, go_yes x f 0 k m h]
  | n + 1, k, m, hd => by
    cases h : m.done
    · rw [show n + 1 + j = (n + j) + 1 by omega, go_no x f n k m h, go_no x f (n + j) k m h]
      rw [go_no x f n k m h] at hd
      rw [go_more x f j n (k + 1) _ hd]
    · rw [go_yes x f _ k m h, go_yes x f (n + 1) k m h]
/-- a fault behind the last step is none -/
theorem go_late (x : X) (f : F) : ∀ (n k : Nat) (m : M), (k : Int) + ((go x none n k m).2.1.length : Int) ≤ f.step → (go x none n k m).1.done = true → go x f n k m = go x none n k m
  | 0, _, _, _, _ => rfl
  | n + 1, k, m, hs, hd => by
    cases h : m.done
    · rw [go_no x none n k m h] at hs hd
      simp only [List.length_cons] at hs
      have e : now f k = now none k := by
        have h1 : now none k = none := by unfold now; split <;> rfl
        rw [h1]; unfold now; rw [if_neg (by omega)]
      rw [go_no x f n k m h, go_no x none n k m h, e]
      rw [go_late x f n (k + 1) (step x m (now none k)).1 (by push_cast at hs ⊢; omega) hd]
    · rw [go_yes x f _ k m h, go_yes x none _ k m h]
theorem now_none (k : Nat) : now none k = none := by unfold now; split <;> rfl
theorem real_none : real none = none := by unfold real; split <;> rfl
theorem hit_none (s : Cs.St) : hit s none = s := rfl
/-- what a step without a fault is; what a skip is -/
theorem step_none (x : X) (m : M) : step x m none = act x m false := by
  unfold step; rw [real_none]; rfl
theorem step_skip (x : X) (m : M) : step x m ⟨1, 0, 0, 0⟩ = act x m true := by
  unfold step
  have h : real ⟨1, 0, 0, 0⟩ = ⟨1, 0, 0, 0⟩ := rfl
  rw [h]; rfl
theorem act_trap (x : X) (m : M) (h : m.st.pc % 2 ≠ 0 ∨ (x.fl.size : Int) ≤ m.st.pc ∨ De.err (code x m.st.pc) ≠ 0) (b : Bool) : act x m b = trap x m 0 := by
  unfold act
  by_cases h1 : m.st.pc % 2 ≠ 0 ∨ (x.fl.size : Int) ≤ m.st.pc
  · rw [if_pos h1]
  · rw [if_neg h1]
    have h2 : De.err (code x m.st.pc) ≠ 0 := by
      rcases h with h | h | h
      · exact absurd (Or.inl h) h1
      · exact absurd (Or.inr h) h1
      · exact h
    simp only [h2, if_true, ne_eq, not_false_eq_true]
/-- a skip is seen as one of one cycle at the same place, or traps as the step did -/
theorem skip_seen (x : X) (m : M) : (act x m true = act x m false ∧ (act x m true).2.kind = 2) ∨ (act x m true = ({ m with st := { m.st with pc := Wd.add m.st.pc (De.len (code x m.st.pc)) } }, ⟨1, m.st.pc, 0, 1⟩) ∧ De.err (code x m.st.pc) = 0) := by
  by_cases h : m.st.pc % 2 ≠ 0 ∨ (x.fl.size : Int) ≤ m.st.pc ∨ De.err (code x m.st.pc) ≠ 0
  · left; rw [act_trap x m h true, act_trap x m h false]; exact ⟨rfl, rfl⟩
  · right
    have h1 : ¬ (m.st.pc % 2 ≠ 0 ∨ (x.fl.size : Int) ≤ m.st.pc) := fun g => h (g.elim .inl fun g => .inr (.inl g))
    have h2 : De.err (code x m.st.pc) = 0 := Decidable.byContradiction fun g => h (.inr (.inr g))
    refine ⟨?_, h2⟩
    unfold act
    rw [if_neg h1]
    simp only [h2, ne_eq, not_true_eq_false, if_false, if_true]
theorem does_pc (x : X) (m : M) (i : Th.Ins) : (does x m i).2.pc = m.st.pc := by
 unfold does trap
 split <;> rfl
theorem act_pc (x : X) (m : M) (b : Bool) : (act x m b).2.pc = m.st.pc := by
 unfold act
 split
 ·rfl
 split
 ·rfl
 split
 ·rfl
 exact does_pc x m _
/-- a good instruction has two or four bytes -/
theorem len_24 (s : ByteArray) (h : De.err s = 0) : De.len s = 2 ∨ De.len s = 4 := by
  unfold De.len
  rw [if_pos h]
  unfold De.err at h
  split at h
  · cases h
  · next h1 =>
    have h2 : De.size s ≠ 0 := fun g => h1 (.inl g)
    revert h2
    unfold De.size
    split
    · intro h; exact absurd rfl h
    · split <;> simp
end Go.Proofs.YthciobjklhkkcaaGreat.Mc
end
section
namespace Go.Proofs.YthciobjklhkkcaaGreat
open Go.ChangeShapes Go.WideShapes Go.ChangeAt Go.RowKit
set_option maxHeartbeats 1000000
set_option maxRecDepth 100000
set_option linter.unusedVariables false

theorem half_or (a b : Nat) (ha : a < 256) (hb : b < 256) : bits .or .u32 ((a : Int) % 4294967296) ((b : Int) % 4294967296 * 256 % 4294967296) = ((a + 256 * b : Nat) : Int) := by
 have e1 : (a : Int) % 4294967296 = (a : Int) := by omega
 have e3 : (b : Int) % 4294967296 * 256 % 4294967296 = ((b * 2 ^ 8 : Nat) : Int) := by omega
 rw [e1, e3, De.or_u32 _ _ (by omega) (by omega), Th.or_add a b 8 8 hb (by omega)]
 omega
theorem half_any (s : ByteArray) (w : World) (hs : 2 ≤ s.size) (hm : s.size ≤ maxLen) :
  Calls Tryz.prog 108 #[.string s] w fun e w' => e = .returned (.int .u32 (De.half s 0 : Int)) ∧ ∃ n, w' = w.drewN n := by
 unfold maxLen at hm
 have g0 : 0 < s.size := by omega
 have g1 : 1 < s.size := by omega
 have g2 : (1 : Int) < (s.size : Int) := by omega
 go_enter Tryz.func108, Tryz.ntmps108
 go_wp2
 go_quiet (fail)
 go_wp2
 go_ret
 refine ⟨ret_int ?_, _, rfl⟩
 rw [De.byt_eq s 0 g0, De.byt_eq s 1 g1]
 exact half_or _ _ (De.byt_lt s 0) (De.byt_lt s 1)
theorem part_eq (x f c : Nat) (hx : x < 4294967296) (hf : f ≤ 31) (hc : c ≤ 16) : wrap64 (bits BinOp.and IntKind.u32 ((x : Int) / 2 ^ f) ((2 ^ c - 1) % 4294967296)) = (De.pt x f c : Int) := by
 have hp : (2 : Nat) ^ c ≤ 2 ^ 16 := Nat.pow_le_pow_right (by decide) hc
 have hq := Nat.two_pow_pos c
 have hd := Nat.div_le_self x (2 ^ f)
 have e1 : (x : Int) / 2 ^ f = ((x / 2 ^ f : Nat) : Int) := by rw [Wd.pow_cast]; rfl
 have e2 : ((2 : Int) ^ c - 1) % 4294967296 = ((2 ^ c - 1 : Nat) : Int) := by rw [Wd.pow_cast]; omega
 have hm := Nat.mod_le (x / 2 ^ f) (2 ^ c)
 rw [e1, e2, De.and_u32 _ _ (by omega) (by omega), Nat.and_two_pow_sub_one_eq_mod, Wd.wrap64_in _ (by omega) (by omega)]
 rfl
theorem part_any (x f c : Nat) (w : World) (hx : x < 4294967296) (hf : f ≤ 31) (hc : c ≤ 16) :
  Calls Tryz.prog 142 #[.int .u32 (x : Int), .int .i64 (f : Int), .int .i64 (c : Int)] w fun e w' => e = .returned (.int .i64 (De.pt x f c : Int)) ∧ ∃ n, w' = w.drewN n := by
 go_enter Tryz.func142, Tryz.ntmps142
 go_wp2
 go_quiet (fail)
 go_wp2
 go_ret
 exact ⟨ret_int (part_eq x f c hx hf hc), _, rfl⟩
theorem part_int (x : Nat) (f c : Int) (w : World) (hx : x < 4294967296) (hf0 : 0 ≤ f) (hf : f ≤ 31) (hc0 : 0 ≤ c) (hc : c ≤ 16) :
  Calls Tryz.prog 142 #[.int .u32 (x : Int), .int .i64 f, .int .i64 c] w fun e w' => e = .returned (.int .i64 (De.pt x f.toNat c.toNat : Int)) ∧ ∃ n, w' = w.drewN n := by
 obtain ⟨f, rfl⟩ := Int.eq_ofNat_of_zero_le hf0
 obtain ⟨c, rfl⟩ := Int.eq_ofNat_of_zero_le hc0
 exact part_any x f c w hx (by omega) (by omega)
theorem alike_any (a b : Nat) (w : World) (ha : a < 2) (hb : b < 2) :
  Calls Tryz.prog 165 #[.int .i64 (a : Int), .int .i64 (b : Int)] w fun e w' => e = .returned (.int .i64 (De.alike a b : Int)) ∧ w = w' := by
 go_enter Tryz.func165, Tryz.ntmps165
 go_wp2
 go_ret
 refine ⟨ret_int ?_, rfl⟩
 have ha' : a = 0 ∨ a = 1 := by omega
 have hb' : b = 0 ∨ b = 1 := by omega
 rcases ha' with rfl | rfl <;> rcases hb' with rfl | rfl <;> rfl
theorem signed_lt (n c : Nat) (h0 : 1 ≤ c) (hc : c ≤ 31) (h : ((n : Int) / 2 ^ (c - 1) == 0) = true) : (n : Int) = De.signed n c := by
 have e : (n : Int) / 2 ^ (c - 1) = ((n / 2 ^ (c - 1) : Nat) : Int) := by rw [Wd.pow_cast]; rfl
 have h0' : (n : Int) / 2 ^ (c - 1) = 0 := eq_of_beq h
 rw [e] at h0'
 have h' : n / 2 ^ (c - 1) = 0 := Int.ofNat_inj.1 h0'
 have hp := Nat.two_pow_pos (c - 1)
 have : n < 2 ^ (c - 1) := by
  rcases Nat.div_eq_zero_iff.1 h' with g | g
  ·omega
  ·exact g
 unfold De.signed; rw [if_pos this]
theorem signed_ge (n c : Nat) (hn : n < 4294967296) (h0 : 1 ≤ c) (hc : c ≤ 31) (h : ((n : Int) / 2 ^ (c - 1) == 0) = false) : wrap64 ((n : Int) - wrap64 (2 ^ c)) = De.signed n c := by
 have e : (n : Int) / 2 ^ (c - 1) = ((n / 2 ^ (c - 1) : Nat) : Int) := by rw [Wd.pow_cast]; rfl
 have h' : ¬ n / 2 ^ (c - 1) = 0 := fun g => by rw [e, g] at h; exact absurd h (by decide)
 have hp : (2 : Nat) ^ c ≤ 2 ^ 31 := Nat.pow_le_pow_right (by decide) hc
 have hz := Nat.two_pow_pos c
 have : ¬ n < 2 ^ (c - 1) := fun g => h' (Nat.div_eq_of_lt g)
 unfold De.signed; rw [if_neg this, Wd.pow_cast]
 clear h e h' this
 generalize 2 ^ c = p at *
 rw [Wd.wrap64_in (p : Int) (by omega) (by omega), Wd.wrap64_in _ (by omega) (by omega)]
theorem signed_any (n c : Nat) (w : World) (hn : n < 4294967296) (h0 : 1 ≤ c) (hc : c ≤ 31) :
  Calls Tryz.prog 164 #[.int .i64 (n : Int), .int .i64 (c : Int)] w fun e w' => e = .returned (.int .i64 (De.signed n c)) ∧ w = w' := by
 go_enter Tryz.func164, Tryz.ntmps164
 go_wp2
 ·go_ret
  exact ⟨ret_int (signed_lt n c h0 hc (by assumption)), rfl⟩
 ·go_ret
  exact ⟨ret_int (signed_ge n c hn h0 hc (by assumption)), rfl⟩
theorem half_int (s : ByteArray) (h : Int) (w : World) (hh : Hid ((De.half s 0 : Int) = h)) (hs : 2 ≤ s.size) (hm : s.size ≤ maxLen) :
  Calls Tryz.prog 108 #[.string s] w fun e w' => e = .returned (.int .u32 h) ∧ ∃ n, w' = w.drewN n := by
 have := hh.out
 subst this
 exact half_any s w hs hm
theorem size_s (s : ByteArray) (w : World) (hm : s.size ≤ maxLen) :
  Calls Tryz.prog 107 #[.string s] w fun e w' => e = .returned (.int .i64 (De.size s : Int)) ∧ ∃ n, w' = w.drewN n := by
 by_cases hs : s.size < 2
 ·have e : De.size s = 0 := if_pos hs
  rw [e]
  unfold maxLen at hm
  go_enter Tryz.func107, Tryz.ntmps107
  go_wp2
  go_ret
  exact ⟨rfl, 0, rfl⟩
 ·have hm' := Lib.hid hm
  unfold maxLen at hm
  obtain ⟨h, hh⟩ : ∃ h : Int, (De.half s 0 : Int) = h := ⟨_, rfl⟩
  by_cases hl : De.half s 0 < 59392
  ·have e : De.size s = 2 := by unfold De.size; rw [if_neg hs, if_pos hl]
   rw [e]
   have hl' : h < 59392 := by omega
   have HH := Lib.hid hh
   clear e hl hh
   go_enter Tryz.func107, Tryz.ntmps107
   go_wp2_with (go_at_call 108; refine (half_int _ _ _ HH (by omega) hm'.out).mono ?_; rintro e w' ⟨rfl, n, rfl⟩)
   go_ret
   exact ⟨rfl, _, rfl⟩
  ·have e : De.size s = 4 := by unfold De.size; rw [if_neg hs, if_neg hl]
   rw [e]
   have hl' : ¬ h < 59392 := by omega
   have HH := Lib.hid hh
   clear e hl hh
   go_enter Tryz.func107, Tryz.ntmps107
   go_wp2_with (go_at_call 108; refine (half_int _ _ _ HH (by omega) hm'.out).mono ?_; rintro e w' ⟨rfl, n, rfl⟩)
   go_ret
   exact ⟨rfl, _, rfl⟩
end Go.Proofs.YthciobjklhkkcaaGreat
end
section
namespace Go.Proofs.YthciobjklhkkcaaGreat.De
open Go.RowKit
set_option maxRecDepth 100000
open Th (Ins none0 check num encS by0 by1 b40 b41 b42 b43)
set_option linter.unusedVariables false

theorem size_cases (s : ByteArray) : De.size s = 0 ∨ (De.size s = 2 ∧ half s 0 < 59392 ∧ 2 ≤ s.size) ∨ (De.size s = 4 ∧ 59392 ≤ half s 0) := by
 unfold De.size
 split
 ·exact Or.inl rfl
 ·split
  ·exact Or.inr (Or.inl ⟨rfl, by assumption, by omega⟩)
  ·exact Or.inr (Or.inr ⟨rfl, by omega⟩)
end Go.Proofs.YthciobjklhkkcaaGreat.De
end
