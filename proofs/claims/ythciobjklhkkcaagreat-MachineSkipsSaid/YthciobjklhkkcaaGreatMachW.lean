/-
 Stage 9's laws: New, Region, State as the laws call them; what a law keeps while it steps a machine.
-/
import Derived.Test.YthciobjklhkkcaaGreatMachV
namespace Go.Proofs.YthciobjklhkkcaaGreat
open Go.ChangeShapes Go.WideShapes Go.ChangeAt Go.RowKit
set_option maxHeartbeats 8000000
set_option maxRecDepth 10000
set_option linter.unusedVariables false
set_option linter.unusedSimpArgs false

theorem new_c (img inp : ByteArray) (w : World) (hn : Mc.newE img inp = 0) :
  Calls Tryz.prog 17 #[.string img, .string inp] w fun e w' => ∃ b lo, e = .returned (.tuple #[.pointer (some ⟨b, 0, none⟩), .int .i64 0]) ∧ MacAt w' b lo (Mc.sOf img inp) (Im.parse img).1.h (Mc.m0 img inp) ∧ (∀ k, Mc.mine b lo k → w.heap.size ≤ k) ∧ Below w.heap.size w w' := by
 unfold Mc.newE at hn
 unfold Mc.m0
 unfold Mc.sOf at *
 rcases hx : Im.parse img with ⟨⟨r, h, i, o, l, md⟩, E⟩
 rw [hx] at hn
 dsimp only at hn ⊢
 by_cases hE : E = 0
 ·subst hE
  rw [if_pos rfl] at hn
  exact new_y img inp r h i o l md w (Lib.hid hx) (Lib.hid (My.err_good.1 hn))
 ·rw [if_neg hE] at hn
  exact absurd hn hE
theorem Mc.run_zero {img inp : ByteArray} {f : Mc.F} {b : Int} (h : ¬ (Mc.run img inp f b).2 = 0) : (Mc.run img inp f b).1 = zeroR := by
 unfold Mc.run at h ⊢
 split
 ·next h1 =>
  rw [if_pos h1] at h
  split
  ·next h2 => rw [if_pos h2] at h; exact absurd rfl h
  ·rfl
 ·rfl
theorem Mc.run_ok {img inp : ByteArray} {f : Mc.F} {b : Int} (h : (Mc.run img inp f b).2 = 0) : Mc.newE img inp = 0 ∧ Mc.okF f = true := by
 unfold Mc.run at h
 split at h
 ·next h1 =>
  split at h
  ·next h2 => exact ⟨h1, h2.1⟩
  ·cases h
 ·next h1 => exact absurd h h1
theorem Mc.new_ok {img inp : ByteArray} (hn : Mc.newE img inp = 0) : 0 ≤ (Im.parse img).1.h ∧ 0 ≤ (Mc.m0 img inp).st.pc := by
 have h := Im.parse_ok (img := img) (by
  unfold Mc.newE at hn
  split at hn
  ·assumption
  ·exact hn)
 exact ⟨h.1, h.2⟩
theorem mreg_any (b : Nat) (l : My.Loc) (s : My.St) (hd : Int) (m : Mc.M) (k : Nat) (w : World) (hm : MacAt w b l s hd m) (hk : k < 7) :
  Calls Tryz.prog 20 #[.pointer (some ⟨b, 0, none⟩), .int .i64 (k : Int)] w fun e w' => e = .returned (.tuple #[.string (Mc.reg s m.mem k), .int .i64 0]) ∧ Below w.heap.size w w' := by
 have C := Lib.hid (fun (W : World) (h : MacAt W b l s hd m) => region_ok l s m.mem k W (Lib.hid h.mem) hk)
 unfold Mc.reg
 generalize (⟨(My.row m.mem (My.bs s k) (My.ln s k)).toArray⟩ : ByteArray) = O at *
 have mp := hm.memp
 have HM := Lib.hid hm
 clear hm
 go_enter Tryz.func20, Tryz.ntmps20
 go_wp2_with (go_at_call 32; refine (C.out _ HM.out).mono ?_; rintro e w1 ⟨rfl, hb1⟩; have HB := Lib.hid hb1; clear hb1)
 exact bodyPost_ret (v := .tuple #[.string O, .int .i64 0]) (by simp [results, Tryz.results20, go_sem]) rfl ⟨rfl, HB.out⟩
theorem state_zero9 (w : World) : StateAt (w.alloc (.cells Cs.zero 56)) w.heap.size Cs.none := state_alloc' w Cs.none _ rfl
theorem mstate_any (b : Nat) (l : My.Loc) (s : My.St) (hd : Int) (m : Mc.M) (w : World) (hm : MacAt w b l s hd m) :
  Calls Tryz.prog 21 #[.pointer (some ⟨b, 0, none⟩)] w fun e w' => e = .returned (.agg (Cs.cells m.st)) ∧ Below w.heap.size w w' := by
 have HM := Lib.hid (hm.alloc (.cells Cs.zero 56))
 have HZ := Lib.hid (state_zero9 w)
 have HB := Lib.hid ((Below.refl w.heap.size w).alloc (Nat.le_refl _) (.cells Cs.zero 56))
 clear hm
 go_enter Tryz.func21, Tryz.ntmps21
 go_wp2_with (first | ((with_reducible refine wpList_load_mac HM.out ?_ ?_); exact rfl) | ((with_reducible apply wpList_store_st HZ.out); exact rfl))
 try simp only [Exit.inBlock, Exit.then]
 exact bp_state rfl rfl (HZ.out.setRow _) rfl ⟨rfl, below_setRow HB.out (by omega) _⟩
/-- a law that steps a machine: its fault in block n, its run's result in block r -/
structure Ms (w : World) (n r : Nat) (W : World) (b : Nat) (lo : My.Loc) (s : My.St) (hd : Int) (m : Mc.M) (fc rc : Array Value) : Prop where
 flt : Blk W n 23 4 fc
 res : Blk W r 27 9 rc
 mac : MacAt W b lo s hd m
 bel : Below n w W
 mine : ∀ k, Mc.mine b lo k → r + 1 ≤ k
 lt : n < r
section
variable {w W W' : World} {n r b : Nat} {lo : My.Loc} {s : My.St} {hd : Int} {m m' : Mc.M} {fc rc : Array Value}
theorem Ms.kept (h : Ms w n r W b lo s hd m fc rc) (hb : Below W.heap.size W W') : Ms w n r W' b lo s hd m fc rc :=
 ⟨h.flt.kept hb, h.res.kept hb, h.mac.kept hb, h.bel.trans (hb.mono (by have := h.flt.lt; omega)), h.mine, h.lt⟩
theorem Ms.alloc (h : Ms w n r W b lo s hd m fc rc) (o : Obj) : Ms w n r (W.alloc o) b lo s hd m fc rc := h.kept ((Below.refl _ _).alloc (Nat.le_refl _) o)
theorem Ms.moved (h : Ms w n r W b lo s hd m fc rc) (hr : Rest (Mc.mine b lo) W W') (hm : MacAt W' b lo s hd m') : Ms w n r W' b lo s hd m' fc rc :=
 ⟨h.flt.rest hr (fun k => by have := h.mine _ k; have := h.lt; omega), h.res.rest hr (fun k => by have := h.mine _ k; omega), hm, h.bel.trans (rest_below hr (by have := h.flt.lt; omega) (fun k hk => by have := h.mine k hk; have := h.lt; omega)), h.mine, h.lt⟩
end
theorem ms_start {w W W' : World} {r b : Nat} {lo : My.Loc} {s : My.St} {hd : Int} {m : Mc.M} {fc rc : Array Value} (hf : Blk W w.heap.size 23 4 fc) (hr : Blk W r 27 9 rc) (hB : Below w.heap.size w W) (hl : w.heap.size < r) (hM : MacAt W' b lo s hd m) (hmine : ∀ k, Mc.mine b lo k → W.heap.size ≤ k) (hb : Below W.heap.size W W') : Ms w w.heap.size r W' b lo s hd m fc rc :=
 ⟨hf.kept hb, hr.kept hb, hM, hB.trans (hb.mono hB.size), fun k hk => by have := hmine k hk; have := hr.lt; omega, hl⟩
theorem ms_six {w W : World} {n r b : Nat} {lo : My.Loc} {s : My.St} {hd : Int} {m : Mc.M} {fc : Array Value} {D : Bool} {K C H X Y : Int} {O A B : ByteArray} (h : Ms w n r W b lo s hd m fc (resC D K C H X Y O A B)) :
  W.cell? ⟨r, 0, none⟩ = some (.bool D) ∧ W.cell? ⟨r, 1, none⟩ = some (.int .i64 K) ∧ W.cell? ⟨r, 2, none⟩ = some (.int .i64 C) ∧ W.cell? ⟨r, 6, none⟩ = some (.string O) ∧ W.cell? ⟨r, 7, none⟩ = some (.string A) ∧ W.cell? ⟨r, 8, none⟩ = some (.string B) :=
 ⟨h.res.cell 0, h.res.cell 1, h.res.cell 2, h.res.cell 6, h.res.cell 7, h.res.cell 8⟩
end Go.Proofs.YthciobjklhkkcaaGreat
