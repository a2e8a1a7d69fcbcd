/-
  Law MachineSkips: Of a run that a skip at a step changes nothing ahead of, the skipped step is seen as one of one cycle at the same place, or traps there as it did.
  Conditions: none but those of the given row.
-/
import Derived.Test.YthciobjklhkkcaaGreatRows
import Derived.Test.YthciobjklhkkcaaGreatMachZ
import Derived.WalkKit
import Derived.ProofKit
import Derived.OpenShut
import Derived.ShutString
import Derived.ChangeOld
import Derived.Below
import Derived.LoopN
import Derived.SizedLaws
namespace Go.Proofs.YthciobjklhkkcaaGreat.machineSkips
open Go.ChangeShapes Go.WideShapes Go.ChangeAt Go.RowKit
open Go.ChangeMaps (open_string shut_string)
set_option linter.unusedVariables false
set_option linter.unusedSimpArgs false

theorem own : ownKnob Tryz.prog.godebug = none := by kernel_rfl
theorem laidOut : laidOutB Tryz.prog = true := by kernel_rfl

set_option maxHeartbeats 8000000 in set_option maxRecDepth 100000 in
theorem walk (a0 : ByteArray) (a1 : ByteArray) (a2 : Int) (w0 : a0.size ≤ maxLen) (w1 : a1.size ≤ maxLen) (w2 : (Lit.int .i64 a2).wf = true) (w : World) :
    Calls Tryz.prog 6 #[.string a0, .string a1, .int .i64 a2] w fun e w' => e = .returned (.bool true) ∧ Below w.heap.size w w' := by
  clear w0 w1
  have HL := Lib.hid (fun w => lives_any w)
  have M2 := Lib.hid (fun w => most_any a2 w)
  by_cases h3 : 0 ≤ a2 ∧ a2 ≤ 5000
  case neg =>
    have e3 : (decide (0 ≤ a2) && decide (a2 ≤ 5000)) = false := by simp; omega
    rw [e3] at M2
    go_enter Tryz.func6, Tryz.ntmps6
    go_wp2_with (first | (go_at_call 16; with_reducible refine (M2.out _).mono ?_; rintro e w' ⟨rfl, rfl⟩) | (go_at_call 8; refine (HL.out _).mono ?_; rintro e w9 ⟨rfl, hb9⟩; have HB9 := Lib.hid ((Below.refl w.heap.size w).trans (hb9.mono (Below.refl w.heap.size w).size)); clear hb9))
    go_ret
    exact ⟨rfl, HB9.out⟩
  have e3 : (decide (0 ≤ a2) && decide (a2 ≤ 5000)) = true := by simp; omega
  rw [e3] at M2
  clear e3
  obtain ⟨at', rfl⟩ := Int.eq_ofNat_of_zero_le h3.1
  have hat : at' ≤ 5000 := by omega
  have hw1 : wrap64 ((at' : Int) + 1) = (at' : Int) + 1 := wrap_small _ (by omega) (by omega)
  rcases hx : Mc.trc a0 a1 ((at' : Int) + 1) with ⟨L, E⟩
  have C1 := Lib.hid (fun w => trace_c a0 a1 ((at' : Int) + 1) L E w hx)
  by_cases hE : E = 0
  case neg =>
    have hE' : (E != 0) = true := by simpa using hE
    clear hx hE h3
    go_enter Tryz.func6, Tryz.ntmps6
    go_wp2_with (first | (go_at_call 16; with_reducible refine (M2.out _).mono ?_; rintro e w' ⟨rfl, rfl⟩) | (go_at_call 13; with_reducible refine (C1.out _).mono ?_; rintro e u1 ⟨v, rfl, hrow, hb⟩; obtain ⟨pp, cc, rfl⟩ := row_slice hrow; clear hrow; have B1 := Lib.hid hb; clear hb) | (go_at_call 8; refine (HL.out _).mono ?_; rintro e w9 ⟨rfl, hb9⟩; have HB9 := Lib.hid (B1.out.trans (hb9.mono B1.out.size)); clear hb9))
    go_ret
    exact ⟨rfl, HB9.out⟩
  subst hE
  by_cases hlen : L.length = at' + 1
  case neg =>
    have hl' : ((L.length : Int) != (at' : Int) + 1) = true := by simp; omega
    clear hx h3 hlen
    go_enter Tryz.func6, Tryz.ntmps6
    go_wp2_with (first | (go_at_call 16; with_reducible refine (M2.out _).mono ?_; rintro e w' ⟨rfl, rfl⟩) | (go_at_call 13; with_reducible refine (C1.out _).mono ?_; rintro e u1 ⟨v, rfl, hrow, hb⟩; obtain ⟨pp, cc, rfl⟩ := row_slice hrow; clear hrow; have B1 := Lib.hid hb; clear hb) | (go_at_call 8; refine (HL.out _).mono ?_; rintro e w9 ⟨rfl, hb9⟩; have HB9 := Lib.hid (B1.out.trans (hb9.mono B1.out.size)); clear hb9))
    go_ret
    exact ⟨rfl, HB9.out⟩
  obtain ⟨hn, hL⟩ := Mc.trc_ok hx (by omega)
  have CN := Lib.hid (fun w => new_c a0 a1 w hn)
  obtain ⟨hh, hp⟩ := Mc.new_ok hn
  unfold Mc.ran at hL
  rw [hlen] at C1
  have hl' : ((L.length : Int) != (at' : Int) + 1) = false := by rw [hlen]; simp
  clear hx hn h3
  generalize Mc.sOf a0 a1 = s at *
  generalize (Im.parse a0).1.h = hd at *
  generalize Mc.m0 a0 a1 = m0 at *
  have hon := Mc.on_start (Mc.xOf s hd) Mc.none (at' + 1) m0 hp
  rw [hL] at hon
  generalize (Mc.go (Mc.xOf s hd) Mc.none (at' + 1) 0 m0).1 = mF at *
  have HON := Lib.hid hon
  have HLN := Lib.hid hlen
  have HAT := Lib.hid hat
  clear hL hon hlen hat hl'
  go_enter Tryz.func6, Tryz.ntmps6
  go_wp2_with (first | (go_at_call 16; with_reducible refine (M2.out _).mono ?_; rintro e w' ⟨rfl, rfl⟩) | (go_at_call 13; with_reducible refine (C1.out _).mono ?_; rintro e u1 ⟨v, rfl, hrow, hb⟩; obtain ⟨g, cc, rfl⟩ := ownsRow_succ hrow; have RW1 := Lib.hid hrow; clear hrow; have B1 := Lib.hid hb; clear hb) | (go_at_call 17; refine (CN.out _).mono ?_; rintro e u2 ⟨bm, lo, rfl, hM, hmine, hb⟩; have H := Lib.hid (mz_start RW1.out B1.out hM hmine hb); clear hM hmine hb))
  clear C1 CN B1 RW1
  go_loopw [11] (fun S wr => ∃ (k : Nat) (pre : List Mc.Ev) (m : Mc.M), S = .int .i64 (k : Int) ∧ k ≤ at' ∧ Mc.On (Mc.xOf s hd) Mc.none (at' + 1) L mF k pre m ∧ Mz w g cc wr bm lo s hd m L (at' + 1)) (fun S _ => at' - (intOf S).toNat)
  case atStart => exact ⟨0, [], m0, rfl, Nat.zero_le _, HON.out, H.out⟩
  case round =>
    obtain ⟨k, pre, m, rfl, hka, hk, hm⟩ := hrel
    clear H HON
    have hdn : m.done = false := by
      cases hd' : m.done
      ·rfl
      ·have h1 := (hk.done hd').1
       have h2 := hk.len
       rw [h1, HLN.out] at h2
       omega
    by_cases hlt : k < at'
    rotate_left
    ·have hge : ¬ (k : Int) < (at' : Int) := by omega
     obtain rfl : k = at' := by omega
     have hpl := hk.len
     have hev0 : L[k]? = some (Mc.act (Mc.xOf s hd) m false).2 := by
       have h1 := (hk.next hh hdn (by omega)).2
       rw [Mc.now_none, Mc.step_none] at h1
       have h2 := Mc.pre_at h1
       rw [hpl] at h2
       exact h2
     have hsk := Mc.skip_seen (Mc.xOf s hd) m
     have hpc := Mc.act_pc (Mc.xOf s hd) m
     have h24 := Mc.len_24 (Mc.code (Mc.xOf s hd) m.st.pc)
     have hst := fun (W : World) (h : MacAt W bm lo s hd m) => mstep_any bm lo s hd m ⟨1, 0, 0, 0⟩ W h hk.pc hdn
     simp only [Mc.stepP_eq _ _ ⟨1, 0, 0, 0⟩ (Int.le_refl 0), Mc.step_skip] at hst
     have C1 := Lib.hid (fun (W : World) (h : MacAt W bm lo s hd m) => mstate_any bm lo s hd m W h)
     have hfin := Mc.skip_fin (Mc.xOf s hd) m hdn
     have hm' := hm
     obtain ⟨m', hmm⟩ : ∃ m', (Mc.act (Mc.xOf s hd) m true).1 = m' := ⟨_, rfl⟩
     rw [hmm] at hfin hst
     obtain ⟨hf1, hf2⟩ := hfin
     have C2 := Lib.hid (fun (W : World) (h : MacAt W bm lo s hd m') => mstate_any bm lo s hd m' W h)
     have CD : Hid (∀ W : World, MacAt W bm lo s hd m' → Calls Tryz.prog 18 #[.pointer (some ⟨bm, 0, none⟩)] W fun e w' => e = .returned (.bool false) ∧ W = w') := Lib.hid fun W h => by
       have h9 := done_any bm lo s hd m' W (Lib.hid h)
       rw [hf1] at h9
       exact h9
     rcases hx : (Mc.act (Mc.xOf s hd) m true).2 with ⟨k', p', a', c'⟩
     rcases hy : (Mc.act (Mc.xOf s hd) m false).2 with ⟨k1, p1, a1', c1⟩
     rw [hx] at hst
     rw [hy] at hev0
     have e1 : p' = m.st.pc := by have := hpc true; rw [hx] at this; exact this
     have e2 : p1 = m.st.pc := by have := hpc false; rw [hy] at this; exact this
     have htr : k' = 2 → k1 = k' ∧ a1' = a' ∧ c1 = c' := fun h2 => by
       rcases hsk with ⟨h3, _⟩ | ⟨h3, _⟩
       ·rw [h3] at hx
        have h4 := hx.symm.trans hy
        injection h4 with z1 z2 z3 z4
        exact ⟨z1.symm, z3.symm, z4.symm⟩
       ·rw [h3] at hx
        injection hx with z1
        omega
     have hns : ¬ k' = 2 → k' = 1 ∧ c' = 1 ∧ (m'.st.pc = Wd.add m.st.pc 2 ∨ m'.st.pc = Wd.add m.st.pc 4) := fun h2 => by
       rcases hsk with ⟨_, h3⟩ | ⟨h3, h5⟩
       ·rw [hx] at h3
        exact absurd h3 h2
       ·rw [h3] at hx hmm
        injection hx with z1 z2 z3 z4
        refine ⟨z1.symm, z4.symm, ?_⟩
        rw [← hmm]
        rcases h24 h5 with h6 | h6
        ·left; show Wd.add _ _ = _; rw [h6]; rfl
        ·right; show Wd.add _ _ = _; rw [h6]; rfl
     dsimp only [Mc.evC] at hst
     have HF2 := Lib.hid hf2
     have CS := Lib.hid hst
     have HEV := Lib.hid hev0
     have HM := Lib.hid hm
     have HTR := Lib.hid htr
     have HNS := Lib.hid hns
     have hln := HLN.out
     subst e2
     subst e1
     have hkk : (0 : Int) ≤ (k : Int) := by omega
     have hkn : (k : Int) < (k : Int) + 1 := by omega
     clear hk hev0 hsk hpc h24 hst hm hm' hx hy htr hns hdn hh hp hmm hf1 hf2 hpl hw1 hge
     skip
     go_wp2_with (first | (go_at_call 21; with_reducible refine (C1.out _ HM.out.mac).mono ?_; rintro e w4 ⟨rfl, hb⟩; have H4 := Lib.hid ((HM.out.kept hb).alloc (.cells (Cs.cells m.st) 56)); have T4 := Lib.hid (Blk.new' w4 56 (Cs.cells m.st) w4.heap.size rfl rfl : Blk _ _ _ 20 _); have O4 := Lib.hid ((HM.out.kept hb).mac.newer (Nat.le_refl _)).1; clear hb) | ((with_reducible apply wpList_store_st (state_zero9 _) m.st); exact rfl; rw [World.setRow_alloc_new]) | ((with_reducible apply wpList_store_st (state_zero9 _) m'.st); exact rfl; rw [World.setRow_alloc_new]) | (go_at_call 19; refine (CS.out _ H4.out.mac).mono ?_; rintro e w5 ⟨rfl, hM5, hR5⟩; have H5 := Lib.hid ((H4.out.moved hR5 hM5).alloc (.cells #[.int .i64 k', .int .i64 m.st.pc, .int .i64 a', .int .i64 c'] 49)); have T5 := Lib.hid ((T4.out.rest hR5 O4.out).alloc (.cells #[.int .i64 k', .int .i64 m.st.pc, .int .i64 a', .int .i64 c'] 49)); have V5 := Lib.hid (Blk.new' w5 49 #[.int .i64 k', .int .i64 m.st.pc, .int .i64 a', .int .i64 c'] w5.heap.size rfl rfl : Blk _ _ _ 4 _); clear hM5 hR5) | (go_at_call 21; with_reducible refine (C2.out _ H5.out.mac).mono ?_; rintro e w6 ⟨rfl, hb⟩; have H6 := Lib.hid ((H5.out.kept hb).alloc (.cells (Cs.cells m'.st) 56)); have T6 := Lib.hid (Blk.new' w6 56 (Cs.cells m'.st) w6.heap.size rfl rfl : Blk _ _ _ 20 _); have Q6 := Lib.hid ((T5.out.kept hb).alloc (.cells (Cs.cells m'.st) 56)); have V6 := Lib.hid ((V5.out.kept hb).alloc (.cells (Cs.cells m'.st) 56)); clear hb))
     have H7 := Lib.hid (H6.out.kept (Below.refl _ _).drew)
     have A7 := Lib.hid (Q6.out.kept (Below.refl _ _).drew)
     have B7 := Lib.hid (T6.out.kept (Below.refl _ _).drew)
     have V7 := Lib.hid (V6.out.kept (Below.refl _ _).drew)
     have r7 := mz_row H7.out HEV.out
     dsimp only at r7
     have hRE := fun W : World => regs_eq m.st W
     clear H4 T4 H5 T5 V5 H6 Q6 T6 V6 C1 C2 CS HM
     generalize w4.heap.size = sb at *
     generalize w5.heap.size = vb at *
     generalize w6.heap.size = tb at *
     have v7 := mz_ev V7.out
     have a7 := mz_st A7.out
     have b7 := mz_st B7.out
     have hf3 := mz_flags HF2.out
     rw [hf3.2.1, hf3.2.2.1, hf3.2.2.2.1, hf3.2.2.2.2] at b7
     have hb1 : Cs.regs m'.st = Cs.regs m.st := hf3.1
     refine wp_region_held_drew (S := fun wx => Blk wx sb 56 20 (Cs.cells m.st) ∧ Blk wx tb 56 20 (Cs.cells m'.st) ∧ (wx.cell? ⟨vb, 0, none⟩ = some (.int .i64 k') ∧ wx.cell? ⟨vb, 1, none⟩ = some (.int .i64 m.st.pc) ∧ wx.cell? ⟨vb, 2, none⟩ = some (.int .i64 a') ∧ wx.cell? ⟨vb, 3, none⟩ = some (.int .i64 c')) ∧ (wx.cell? ⟨sb, 15, none⟩ = some (.int .i64 m.st.pc) ∧ wx.cell? ⟨sb, 16, none⟩ = some (.bool m.st.n) ∧ wx.cell? ⟨sb, 17, none⟩ = some (.bool m.st.z) ∧ wx.cell? ⟨sb, 18, none⟩ = some (.bool m.st.c) ∧ wx.cell? ⟨sb, 19, none⟩ = some (.bool m.st.v)) ∧ (wx.cell? ⟨tb, 15, none⟩ = some (.int .i64 m'.st.pc) ∧ wx.cell? ⟨tb, 16, none⟩ = some (.bool m.st.n) ∧ wx.cell? ⟨tb, 17, none⟩ = some (.bool m.st.z) ∧ wx.cell? ⟨tb, 18, none⟩ = some (.bool m.st.c) ∧ wx.cell? ⟨tb, 19, none⟩ = some (.bool m.st.v)) ∧ (wx.cell? ⟨g, k * 4, none⟩ = some (.int .i64 k1) ∧ wx.cell? ⟨g, k * 4 + 1, none⟩ = some (.int .i64 m.st.pc) ∧ wx.cell? ⟨g, k * 4 + 2, none⟩ = some (.int .i64 a1') ∧ wx.cell? ⟨g, k * 4 + 3, none⟩ = some (.int .i64 c1))) (by kernel_rfl) (⟨A7.out, B7.out, v7, a7, b7, r7⟩) (fun hHeld => ?_)
     refine wpAnyH_take (i := 0) (v := ?_) rfl (by kernel_rfl) (by kernel_rfl) (by kernel_rfl) (fun _ _ _ h => h) (Or.inl ⟨by rfl, ?_⟩) (by assumption) ?_
     rotate_left
     · intro w hSw
       (try dsimp only at hSw)
       go_simp
       (try with_reducible rfl)
     (try simp only [Act.put, List.setIfInBounds_toArray, List.set_cons_zero, List.set_cons_succ, List.getElem_toArray, List.getElem_cons_succ, List.getElem_cons_zero])
     refine wpAnyH_take (i := 1) (v := ?_) rfl (by kernel_rfl) (by kernel_rfl) (by kernel_rfl) (fun _ _ _ h => h) (Or.inl ⟨by rfl, ?_⟩) (by assumption) ?_
     rotate_left
     · intro w hSw
       (try dsimp only at hSw)
       go_simp
       (try with_reducible rfl)
     (try simp only [Act.put, List.setIfInBounds_toArray, List.set_cons_zero, List.set_cons_succ, List.getElem_toArray, List.getElem_cons_succ, List.getElem_cons_zero])
     refine wpAnyH_take (i := 2) (v := ?_) rfl (by kernel_rfl) (by kernel_rfl) (by kernel_rfl) (fun _ _ _ h => h) (Or.inl ⟨by rfl, ?_⟩) (by assumption) ?_
     rotate_left
     · intro w hSw
       (try dsimp only at hSw)
       go_simp
       (try with_reducible rfl)
     (try simp only [Act.put, List.setIfInBounds_toArray, List.set_cons_zero, List.set_cons_succ, List.getElem_toArray, List.getElem_cons_succ, List.getElem_cons_zero])
     refine wpAnyH_take (i := 3) (v := ?_) rfl (by kernel_rfl) (by kernel_rfl) (by kernel_rfl) (fun _ _ _ h => h) (Or.inl ⟨by rfl, ?_⟩) (by assumption) ?_
     rotate_left
     · intro w hSw
       (try dsimp only at hSw)
       go_simp
       (try with_reducible rfl)
     (try simp only [Act.put, List.setIfInBounds_toArray, List.set_cons_zero, List.set_cons_succ, List.getElem_toArray, List.getElem_cons_succ, List.getElem_cons_zero])
     refine wpAnyH_take (i := 4) (v := ?_) rfl (by kernel_rfl) (by kernel_rfl) (by kernel_rfl) (fun _ _ _ h => h) (Or.inl ⟨by rfl, ?_⟩) (by assumption) ?_
     rotate_left
     · intro w hSw
       (try dsimp only at hSw)
       go_simp
       (try with_reducible rfl)
     (try simp only [Act.put, List.setIfInBounds_toArray, List.set_cons_zero, List.set_cons_succ, List.getElem_toArray, List.getElem_cons_succ, List.getElem_cons_zero])
     refine wpAnyH_take (i := 5) (v := ?_) rfl (by kernel_rfl) (by kernel_rfl) (by kernel_rfl) (fun _ _ _ h => h) (Or.inl ⟨by rfl, ?_⟩) (by assumption) ?_
     rotate_left
     · intro w hSw
       (try dsimp only at hSw)
       go_simp
       (try with_reducible rfl)
     (try simp only [Act.put, List.setIfInBounds_toArray, List.set_cons_zero, List.set_cons_succ, List.getElem_toArray, List.getElem_cons_succ, List.getElem_cons_zero])
     refine wpAnyH_take (i := 6) (v := ?_) rfl (by kernel_rfl) (by kernel_rfl) (by kernel_rfl) (fun _ _ _ h => h) (Or.inl ⟨by rfl, ?_⟩) (by assumption) ?_
     rotate_left
     · intro w hSw
       (try dsimp only at hSw)
       go_simp
       (try with_reducible rfl)
     (try simp only [Act.put, List.setIfInBounds_toArray, List.set_cons_zero, List.set_cons_succ, List.getElem_toArray, List.getElem_cons_succ, List.getElem_cons_zero])
     refine wpAnyH_take (i := 7) (v := ?_) rfl (by kernel_rfl) (by kernel_rfl) (by kernel_rfl) (fun _ _ _ h => h) (Or.inl ⟨by rfl, ?_⟩) (by assumption) ?_
     rotate_left
     · intro w hSw
       (try dsimp only at hSw)
       go_simp
       (try with_reducible rfl)
     (try simp only [Act.put, List.setIfInBounds_toArray, List.set_cons_zero, List.set_cons_succ, List.getElem_toArray, List.getElem_cons_succ, List.getElem_cons_zero])
     refine wpAnyH_take (i := 8) (v := ?_) rfl (by kernel_rfl) (by kernel_rfl) (by kernel_rfl) (fun _ _ _ h => h) (Or.inl ⟨by rfl, ?_⟩) (by assumption) ?_
     rotate_left
     · intro w hSw
       (try dsimp only at hSw)
       go_simp
       (try with_reducible rfl)
     (try simp only [Act.put, List.setIfInBounds_toArray, List.set_cons_zero, List.set_cons_succ, List.getElem_toArray, List.getElem_cons_succ, List.getElem_cons_zero])
     refine wpAnyH_take (i := 9) (v := ?_) rfl (by kernel_rfl) (by kernel_rfl) (by kernel_rfl) (fun _ _ _ h => h) (Or.inl ⟨by rfl, ?_⟩) (by assumption) ?_
     rotate_left
     · intro w hSw
       (try dsimp only at hSw)
       go_simp
       (try with_reducible rfl)
     (try simp only [Act.put, List.setIfInBounds_toArray, List.set_cons_zero, List.set_cons_succ, List.getElem_toArray, List.getElem_cons_succ, List.getElem_cons_zero])
     refine wpAnyH_take (i := 10) (v := ?_) rfl (by kernel_rfl) (by kernel_rfl) (by kernel_rfl) (fun _ _ _ h => h) (Or.inl ⟨by rfl, ?_⟩) (by assumption) ?_
     rotate_left
     · intro w hSw
       (try dsimp only at hSw)
       go_simp
       (try with_reducible rfl)
     (try simp only [Act.put, List.setIfInBounds_toArray, List.set_cons_zero, List.set_cons_succ, List.getElem_toArray, List.getElem_cons_succ, List.getElem_cons_zero])
     refine wpAnyH_take (i := 11) (v := ?_) rfl (by kernel_rfl) (by kernel_rfl) (by kernel_rfl) (fun _ _ _ h => h) (Or.inl ⟨by rfl, ?_⟩) (by assumption) ?_
     rotate_left
     · intro w hSw
       (try dsimp only at hSw)
       go_simp
       (try with_reducible rfl)
     (try simp only [Act.put, List.setIfInBounds_toArray, List.set_cons_zero, List.set_cons_succ, List.getElem_toArray, List.getElem_cons_succ, List.getElem_cons_zero])
     refine wpAnyH_take (i := 12) (v := ?_) rfl (by kernel_rfl) (by kernel_rfl) (by kernel_rfl) (fun _ _ _ h => h) (Or.inl ⟨by rfl, ?_⟩) (by assumption) ?_
     rotate_left
     · intro w hSw
       (try dsimp only at hSw)
       go_simp
       (try with_reducible rfl)
     (try simp only [Act.put, List.setIfInBounds_toArray, List.set_cons_zero, List.set_cons_succ, List.getElem_toArray, List.getElem_cons_succ, List.getElem_cons_zero])
     refine wpAnyH_take (i := 13) (v := ?_) rfl (by kernel_rfl) (by kernel_rfl) (by kernel_rfl) (fun _ _ _ h => h) (Or.inl ⟨by rfl, ?_⟩) (by assumption) ?_
     rotate_left
     · intro w hSw
       (try dsimp only at hSw)
       go_simp
       (try with_reducible rfl)
     (try simp only [Act.put, List.setIfInBounds_toArray, List.set_cons_zero, List.set_cons_succ, List.getElem_toArray, List.getElem_cons_succ, List.getElem_cons_zero])
     refine wpAnyH_ready (rs := [14]) (by kernel_rfl) (by simp) ?_
     refine AllReadyH.cons rfl (fun K hK => ?_) AllReadyH.nil
     go_simp
     (go_at_call 18; refine (CD.out _ H7.out.mac).mono ?_; rintro e w' ⟨rfl, rfl⟩)
     refine hK.out _ _ (by exact ⟨A7.out, B7.out, v7, a7, b7, r7⟩) (fun hHeld => ?_)
     clear hK K
     (try simp only [Act.put, List.setIfInBounds_toArray, List.set_cons_zero, List.set_cons_succ, List.getElem_toArray, List.getElem_cons_succ, List.getElem_cons_zero])
     refine wpAnyH_take (i := 15) (v := ?_) rfl (by kernel_rfl) (by kernel_rfl) (by kernel_rfl) (fun _ _ _ h => h) (Or.inl ⟨by rfl, ?_⟩) (by assumption) ?_
     rotate_left
     · intro w hSw
       (try dsimp only at hSw)
       go_simp
       (try with_reducible rfl)
     (try simp only [Act.put, List.setIfInBounds_toArray, List.set_cons_zero, List.set_cons_succ, List.getElem_toArray, List.getElem_cons_succ, List.getElem_cons_zero])
     refine wpAnyH_take (i := 16) (v := ?_) rfl (by kernel_rfl) (by kernel_rfl) (by kernel_rfl) (fun _ _ _ h => h) (Or.inl ⟨by rfl, ?_⟩) (by assumption) ?_
     rotate_left
     · intro w hSw
       (try dsimp only at hSw)
       go_simp
       (try with_reducible rfl)
     (try simp only [Act.put, List.setIfInBounds_toArray, List.set_cons_zero, List.set_cons_succ, List.getElem_toArray, List.getElem_cons_succ, List.getElem_cons_zero])
     refine wpAnyH_take (i := 17) (v := ?_) rfl (by kernel_rfl) (by kernel_rfl) (by kernel_rfl) (fun _ _ _ h => h) (Or.inl ⟨by rfl, ?_⟩) (by assumption) ?_
     rotate_left
     · intro w hSw
       (try dsimp only at hSw)
       go_simp
       (try with_reducible rfl)
     (try simp only [Act.put, List.setIfInBounds_toArray, List.set_cons_zero, List.set_cons_succ, List.getElem_toArray, List.getElem_cons_succ, List.getElem_cons_zero])
     refine wpAnyH_take (i := 18) (v := _) rfl (by kernel_rfl) (by kernel_rfl) (by kernel_rfl) (fun _ _ _ h => h) (yieldsIf_load_regs (by rfl) rfl (fun _ h => h.2.1)) (by assumption) ?_
     rw [hb1]
     (try simp only [Act.put, List.setIfInBounds_toArray, List.set_cons_zero, List.set_cons_succ, List.getElem_toArray, List.getElem_cons_succ, List.getElem_cons_zero])
     refine wpAnyH_take (i := 19) (v := ?_) rfl (by kernel_rfl) (by kernel_rfl) (by kernel_rfl) (fun _ _ _ h => h) (Or.inl ⟨by rfl, ?_⟩) (by assumption) ?_
     rotate_left
     · intro w hSw
       (try dsimp only at hSw)
       go_simp
       (try with_reducible rfl)
     (try simp only [Act.put, List.setIfInBounds_toArray, List.set_cons_zero, List.set_cons_succ, List.getElem_toArray, List.getElem_cons_succ, List.getElem_cons_zero])
     refine wpAnyH_take (i := 20) (v := _) rfl (by kernel_rfl) (by kernel_rfl) (by kernel_rfl) (fun _ _ _ h => h) (yieldsIf_load_regs (by rfl) rfl (fun _ h => h.1)) (by assumption) ?_
     (try simp only [Act.put, List.setIfInBounds_toArray, List.set_cons_zero, List.set_cons_succ, List.getElem_toArray, List.getElem_cons_succ, List.getElem_cons_zero])
     refine wpAnyH_take (i := 21) (v := ?_) rfl (by kernel_rfl) (by kernel_rfl) (by kernel_rfl) (fun _ _ _ h => h) (Or.inl ⟨by rfl, ?_⟩) (by assumption) ?_
     rotate_left
     · intro w hSw
       (try dsimp only at hSw)
       go_simp
       (try with_reducible rfl)
     (try simp only [Act.put, List.setIfInBounds_toArray, List.set_cons_zero, List.set_cons_succ, List.getElem_toArray, List.getElem_cons_succ, List.getElem_cons_zero])
     refine wpAnyH_take (i := 22) (v := ?_) rfl (by kernel_rfl) (by kernel_rfl) (by kernel_rfl) (fun _ _ _ h => h) (Or.inl ⟨by rfl, ?_⟩) (by assumption) ?_
     rotate_left
     · intro w hSw
       (try dsimp only at hSw)
       go_simp
       (try with_reducible rfl)
     (try simp only [Act.put, List.setIfInBounds_toArray, List.set_cons_zero, List.set_cons_succ, List.getElem_toArray, List.getElem_cons_succ, List.getElem_cons_zero])
     refine wpAnyH_take (i := 23) (v := ?_) rfl (by kernel_rfl) (by kernel_rfl) (by kernel_rfl) (fun _ _ _ h => h) (Or.inl ⟨by rfl, ?_⟩) (by assumption) ?_
     rotate_left
     · intro w hSw
       (try dsimp only at hSw)
       go_simp
       (try with_reducible rfl)
     (try simp only [Act.put, List.setIfInBounds_toArray, List.set_cons_zero, List.set_cons_succ, List.getElem_toArray, List.getElem_cons_succ, List.getElem_cons_zero])
     refine wpAnyH_take (i := 24) (v := ?_) rfl (by kernel_rfl) (by kernel_rfl) (by kernel_rfl) (fun _ _ _ h => h) (Or.inl ⟨by rfl, ?_⟩) (by assumption) ?_
     rotate_left
     · intro w hSw
       (try dsimp only at hSw)
       go_simp
       (try with_reducible rfl)
     (try simp only [Act.put, List.setIfInBounds_toArray, List.set_cons_zero, List.set_cons_succ, List.getElem_toArray, List.getElem_cons_succ, List.getElem_cons_zero])
     refine wpAnyH_take (i := 25) (v := ?_) rfl (by kernel_rfl) (by kernel_rfl) (by kernel_rfl) (fun _ _ _ h => h) (Or.inl ⟨by rfl, ?_⟩) (by assumption) ?_
     rotate_left
     · intro w hSw
       (try dsimp only at hSw)
       go_simp
       (try with_reducible rfl)
     (try simp only [Act.put, List.setIfInBounds_toArray, List.set_cons_zero, List.set_cons_succ, List.getElem_toArray, List.getElem_cons_succ, List.getElem_cons_zero])
     refine wpAnyH_take (i := 26) (v := ?_) rfl (by kernel_rfl) (by kernel_rfl) (by kernel_rfl) (fun _ _ _ h => h) (Or.inl ⟨by rfl, ?_⟩) (by assumption) ?_
     rotate_left
     · intro w hSw
       (try dsimp only at hSw)
       go_simp
       (try with_reducible rfl)
     (try simp only [Act.put, List.setIfInBounds_toArray, List.set_cons_zero, List.set_cons_succ, List.getElem_toArray, List.getElem_cons_succ, List.getElem_cons_zero])
     refine wpAnyH_take (i := 27) (v := ?_) rfl (by kernel_rfl) (by kernel_rfl) (by kernel_rfl) (fun _ _ _ h => h) (Or.inl ⟨by rfl, ?_⟩) (by assumption) ?_
     rotate_left
     · intro w hSw
       (try dsimp only at hSw)
       go_simp
       (try with_reducible rfl)
     (try simp only [Act.put, List.setIfInBounds_toArray, List.set_cons_zero, List.set_cons_succ, List.getElem_toArray, List.getElem_cons_succ, List.getElem_cons_zero])
     refine wpAnyH_take (i := 28) (v := ?_) rfl (by kernel_rfl) (by kernel_rfl) (by kernel_rfl) (fun _ _ _ h => h) (Or.inl ⟨by rfl, ?_⟩) (by assumption) ?_
     rotate_left
     · intro w hSw
       (try dsimp only at hSw)
       go_simp
       (try with_reducible rfl)
     (try simp only [Act.put, List.setIfInBounds_toArray, List.set_cons_zero, List.set_cons_succ, List.getElem_toArray, List.getElem_cons_succ, List.getElem_cons_zero])
     refine wpAnyH_take (i := 29) (v := ?_) rfl (by kernel_rfl) (by kernel_rfl) (by kernel_rfl) (fun _ _ _ h => h) (Or.inl ⟨by rfl, ?_⟩) (by assumption) ?_
     rotate_left
     · intro w hSw
       (try dsimp only at hSw)
       go_simp
       (try with_reducible rfl)
     (try simp only [Act.put, List.setIfInBounds_toArray, List.set_cons_zero, List.set_cons_succ, List.getElem_toArray, List.getElem_cons_succ, List.getElem_cons_zero])
     refine wpAnyH_take (i := 30) (v := ?_) rfl (by kernel_rfl) (by kernel_rfl) (by kernel_rfl) (fun _ _ _ h => h) (Or.inl ⟨by rfl, ?_⟩) (by assumption) ?_
     rotate_left
     · intro w hSw
       (try dsimp only at hSw)
       go_simp
       (try with_reducible rfl)
     (try simp only [Act.put, List.setIfInBounds_toArray, List.set_cons_zero, List.set_cons_succ, List.getElem_toArray, List.getElem_cons_succ, List.getElem_cons_zero])
     refine wpAnyH_take (i := 31) (v := ?_) rfl (by kernel_rfl) (by kernel_rfl) (by kernel_rfl) (fun _ _ _ h => h) (Or.inl ⟨by rfl, ?_⟩) (by assumption) ?_
     rotate_left
     · intro w hSw
       (try dsimp only at hSw)
       go_simp
       (try with_reducible rfl)
     (try simp only [Act.put, List.setIfInBounds_toArray, List.set_cons_zero, List.set_cons_succ, List.getElem_toArray, List.getElem_cons_succ, List.getElem_cons_zero])
     refine wpAnyH_take (i := 32) (v := ?_) rfl (by kernel_rfl) (by kernel_rfl) (by kernel_rfl) (fun _ _ _ h => h) (Or.inl ⟨by rfl, ?_⟩) (by assumption) ?_
     rotate_left
     · intro w hSw
       (try dsimp only at hSw)
       go_simp
       (try with_reducible rfl)
     (try simp only [Act.put, List.setIfInBounds_toArray, List.set_cons_zero, List.set_cons_succ, List.getElem_toArray, List.getElem_cons_succ, List.getElem_cons_zero])
     refine wpAnyH_take (i := 33) (v := ?_) rfl (by kernel_rfl) (by kernel_rfl) (by kernel_rfl) (fun _ _ _ h => h) (Or.inl ⟨by rfl, ?_⟩) (by assumption) ?_
     rotate_left
     · intro w hSw
       (try dsimp only at hSw)
       go_simp
       (try with_reducible rfl)
     (try simp only [Act.put, List.setIfInBounds_toArray, List.set_cons_zero, List.set_cons_succ, List.getElem_toArray, List.getElem_cons_succ, List.getElem_cons_zero])
     refine wpAnyH_take (i := 34) (v := ?_) rfl (by kernel_rfl) (by kernel_rfl) (by kernel_rfl) (fun _ _ _ h => h) (Or.inl ⟨by rfl, ?_⟩) (by assumption) ?_
     rotate_left
     · intro w hSw
       (try dsimp only at hSw)
       go_simp
       (try with_reducible rfl)
     (try simp only [Act.put, List.setIfInBounds_toArray, List.set_cons_zero, List.set_cons_succ, List.getElem_toArray, List.getElem_cons_succ, List.getElem_cons_zero])
     refine wpAnyH_take (i := 35) (v := ?_) rfl (by kernel_rfl) (by kernel_rfl) (by kernel_rfl) (fun _ _ _ h => h) (Or.inl ⟨by rfl, ?_⟩) (by assumption) ?_
     rotate_left
     · intro w hSw
       (try dsimp only at hSw)
       go_simp
       (try with_reducible rfl)
     (try simp only [Act.put, List.setIfInBounds_toArray, List.set_cons_zero, List.set_cons_succ, List.getElem_toArray, List.getElem_cons_succ, List.getElem_cons_zero])
     refine wpAnyH_take (i := 36) (v := ?_) rfl (by kernel_rfl) (by kernel_rfl) (by kernel_rfl) (fun _ _ _ h => h) (Or.inl ⟨by rfl, ?_⟩) (by assumption) ?_
     rotate_left
     · intro w hSw
       (try dsimp only at hSw)
       go_simp
       (try with_reducible rfl)
     (try simp only [Act.put, List.setIfInBounds_toArray, List.set_cons_zero, List.set_cons_succ, List.getElem_toArray, List.getElem_cons_succ, List.getElem_cons_zero])
     refine wpAnyH_take (i := 37) (v := ?_) rfl (by kernel_rfl) (by kernel_rfl) (by kernel_rfl) (fun _ _ _ h => h) (Or.inl ⟨by rfl, ?_⟩) (by assumption) ?_
     rotate_left
     · intro w hSw
       (try dsimp only at hSw)
       go_simp
       (try with_reducible rfl)
     (try simp only [Act.put, List.setIfInBounds_toArray, List.set_cons_zero, List.set_cons_succ, List.getElem_toArray, List.getElem_cons_succ, List.getElem_cons_zero])
     refine wpAnyH_take (i := 38) (v := ?_) rfl (by kernel_rfl) (by kernel_rfl) (by kernel_rfl) (fun _ _ _ h => h) (Or.inl ⟨by rfl, ?_⟩) (by assumption) ?_
     rotate_left
     · intro w hSw
       (try dsimp only at hSw)
       go_simp
       (try with_reducible rfl)
     (try simp only [Act.put, List.setIfInBounds_toArray, List.set_cons_zero, List.set_cons_succ, List.getElem_toArray, List.getElem_cons_succ, List.getElem_cons_zero])
     refine wpAnyH_take (i := 39) (v := ?_) rfl (by kernel_rfl) (by kernel_rfl) (by kernel_rfl) (fun _ _ _ h => h) (Or.inl ⟨by rfl, ?_⟩) (by assumption) ?_
     rotate_left
     · intro w hSw
       (try dsimp only at hSw)
       go_simp
       (try with_reducible rfl)
     (try simp only [Act.put, List.setIfInBounds_toArray, List.set_cons_zero, List.set_cons_succ, List.getElem_toArray, List.getElem_cons_succ, List.getElem_cons_zero])
     refine wpAnyH_take (i := 40) (v := ?_) rfl (by kernel_rfl) (by kernel_rfl) (by kernel_rfl) (fun _ _ _ h => h) (Or.inl ⟨by rfl, ?_⟩) (by assumption) ?_
     rotate_left
     · intro w hSw
       (try dsimp only at hSw)
       go_simp
       (try with_reducible rfl)
     (try simp only [Act.put, List.setIfInBounds_toArray, List.set_cons_zero, List.set_cons_succ, List.getElem_toArray, List.getElem_cons_succ, List.getElem_cons_zero])
     refine wpAnyH_take (i := 41) (v := ?_) rfl (by kernel_rfl) (by kernel_rfl) (by kernel_rfl) (fun _ _ _ h => h) (Or.inl ⟨by rfl, ?_⟩) (by assumption) ?_
     rotate_left
     · intro w hSw
       (try dsimp only at hSw)
       go_simp
       (try with_reducible rfl)
     (try simp only [Act.put, List.setIfInBounds_toArray, List.set_cons_zero, List.set_cons_succ, List.getElem_toArray, List.getElem_cons_succ, List.getElem_cons_zero])
     refine wpAnyH_take (i := 42) (v := ?_) rfl (by kernel_rfl) (by kernel_rfl) (by kernel_rfl) (fun _ _ _ h => h) (Or.inl ⟨by rfl, ?_⟩) (by assumption) ?_
     rotate_left
     · intro w hSw
       (try dsimp only at hSw)
       go_simp
       (try with_reducible rfl)
     (try simp only [Act.put, List.setIfInBounds_toArray, List.set_cons_zero, List.set_cons_succ, List.getElem_toArray, List.getElem_cons_succ, List.getElem_cons_zero])
     refine wpAnyH_take (i := 43) (v := ?_) rfl (by kernel_rfl) (by kernel_rfl) (by kernel_rfl) (fun _ _ _ h => h) (Or.inl ⟨by rfl, ?_⟩) (by assumption) ?_
     rotate_left
     · intro w hSw
       (try dsimp only at hSw)
       go_simp
       (try with_reducible rfl)
     (try simp only [Act.put, List.setIfInBounds_toArray, List.set_cons_zero, List.set_cons_succ, List.getElem_toArray, List.getElem_cons_succ, List.getElem_cons_zero])
     refine wpAnyH_take (i := 44) (v := ?_) rfl (by kernel_rfl) (by kernel_rfl) (by kernel_rfl) (fun _ _ _ h => h) (Or.inl ⟨by rfl, ?_⟩) (by assumption) ?_
     rotate_left
     · intro w hSw
       (try dsimp only at hSw)
       go_simp
       (try with_reducible rfl)
     (try simp only [Act.put, List.setIfInBounds_toArray, List.set_cons_zero, List.set_cons_succ, List.getElem_toArray, List.getElem_cons_succ, List.getElem_cons_zero])
     refine wpAnyH_take (i := 45) (v := ?_) rfl (by kernel_rfl) (by kernel_rfl) (by kernel_rfl) (fun _ _ _ h => h) (Or.inl ⟨by rfl, ?_⟩) (by assumption) ?_
     rotate_left
     · intro w hSw
       (try dsimp only at hSw)
       go_simp
       (try with_reducible rfl)
     (try simp only [Act.put, List.setIfInBounds_toArray, List.set_cons_zero, List.set_cons_succ, List.getElem_toArray, List.getElem_cons_succ, List.getElem_cons_zero])
     refine wpAnyH_take (i := 46) (v := ?_) rfl (by kernel_rfl) (by kernel_rfl) (by kernel_rfl) (fun _ _ _ h => h) (Or.inl ⟨by rfl, ?_⟩) (by assumption) ?_
     rotate_left
     · intro w hSw
       (try dsimp only at hSw)
       go_simp
       (try with_reducible rfl)
     (try simp only [Act.put, List.setIfInBounds_toArray, List.set_cons_zero, List.set_cons_succ, List.getElem_toArray, List.getElem_cons_succ, List.getElem_cons_zero])
     refine wpAnyH_take (i := 47) (v := ?_) rfl (by kernel_rfl) (by kernel_rfl) (by kernel_rfl) (fun _ _ _ h => h) (Or.inl ⟨by rfl, ?_⟩) (by assumption) ?_
     rotate_left
     · intro w hSw
       (try dsimp only at hSw)
       go_simp
       (try with_reducible rfl)
     (try simp only [Act.put, List.setIfInBounds_toArray, List.set_cons_zero, List.set_cons_succ, List.getElem_toArray, List.getElem_cons_succ, List.getElem_cons_zero])
     refine wpAnyH_take (i := 48) (v := ?_) rfl (by kernel_rfl) (by kernel_rfl) (by kernel_rfl) (fun _ _ _ h => h) (Or.inl ⟨by rfl, ?_⟩) (by assumption) ?_
     rotate_left
     · intro w hSw
       (try dsimp only at hSw)
       go_simp
       (try with_reducible rfl)
     (try simp only [Act.put, List.setIfInBounds_toArray, List.set_cons_zero, List.set_cons_succ, List.getElem_toArray, List.getElem_cons_succ, List.getElem_cons_zero])
     refine wpAnyH_take (i := 49) (v := ?_) rfl (by kernel_rfl) (by kernel_rfl) (by kernel_rfl) (fun _ _ _ h => h) (Or.inl ⟨by rfl, ?_⟩) (by assumption) ?_
     rotate_left
     · intro w hSw
       (try dsimp only at hSw)
       go_simp
       (try with_reducible rfl)
     (try simp only [Act.put, List.setIfInBounds_toArray, List.set_cons_zero, List.set_cons_succ, List.getElem_toArray, List.getElem_cons_succ, List.getElem_cons_zero])
     refine wpAnyH_take (i := 50) (v := ?_) rfl (by kernel_rfl) (by kernel_rfl) (by kernel_rfl) (fun _ _ _ h => h) (Or.inl ⟨by rfl, ?_⟩) (by assumption) ?_
     rotate_left
     · intro w hSw
       (try dsimp only at hSw)
       go_simp
       (try with_reducible rfl)
     (try simp only [Act.put, List.setIfInBounds_toArray, List.set_cons_zero, List.set_cons_succ, List.getElem_toArray, List.getElem_cons_succ, List.getElem_cons_zero])
     refine wpAnyH_done (by kernel_rfl) ?_ _
     obtain ⟨z0, z1, z2, z3⟩ := v7
     generalize World.drew _ = W8 at *
     by_cases hk2 : k' = 2
     ·obtain ⟨hq1, hq2, hq3⟩ := HTR.out hk2
      subst hk2
      subst hq1
      subst hq2
      subst hq3
      clear HTR HNS
      go_wp2_with fail
      have H8 := Lib.hid (H7.out.kept (Below.refl _ _).drew)
      have A8 := Lib.hid (A7.out.kept (Below.refl _ _).drew)
      have B8 := Lib.hid (B7.out.kept (Below.refl _ _).drew)
      have V8 := Lib.hid (V7.out.kept (Below.refl _ _).drew)
      have r8 := mz_row H8.out HEV.out
      dsimp only at r8
      refine wp_region_held_drew (S := fun wx => Blk wx vb 49 4 #[.int .i64 2, .int .i64 m.st.pc, .int .i64 a1', .int .i64 c1] ∧ (wx.cell? ⟨g, k * 4, none⟩ = some (.int .i64 2) ∧ wx.cell? ⟨g, k * 4 + 1, none⟩ = some (.int .i64 m.st.pc) ∧ wx.cell? ⟨g, k * 4 + 2, none⟩ = some (.int .i64 a1') ∧ wx.cell? ⟨g, k * 4 + 3, none⟩ = some (.int .i64 c1))) (by kernel_rfl) (⟨V8.out, r8⟩) (fun hHeld => ?_)
      refine wpAnyH_take (i := 0) (v := _) rfl (by kernel_rfl) (by kernel_rfl) (by kernel_rfl) (fun _ _ _ h => h) (yieldsIf_load_blk evT (by rfl) rfl (fun _ h => h.1)) (by assumption) ?_
      (try simp only [Act.put, List.setIfInBounds_toArray, List.set_cons_zero, List.set_cons_succ, List.getElem_toArray, List.getElem_cons_succ, List.getElem_cons_zero])
      refine wpAnyH_take (i := 1) (v := ?_) rfl (by kernel_rfl) (by kernel_rfl) (by kernel_rfl) (fun _ _ _ h => h) (Or.inl ⟨by rfl, ?_⟩) (by assumption) ?_
      rotate_left
      · intro w hSw
        (try dsimp only at hSw)
        go_simp
        (try with_reducible rfl)
      (try simp only [Act.put, List.setIfInBounds_toArray, List.set_cons_zero, List.set_cons_succ, List.getElem_toArray, List.getElem_cons_succ, List.getElem_cons_zero])
      refine wpAnyH_take (i := 2) (v := ?_) rfl (by kernel_rfl) (by kernel_rfl) (by kernel_rfl) (fun _ _ _ h => h) (Or.inl ⟨by rfl, ?_⟩) (by assumption) ?_
      rotate_left
      · intro w hSw
        (try dsimp only at hSw)
        go_simp
        (try with_reducible rfl)
      (try simp only [Act.put, List.setIfInBounds_toArray, List.set_cons_zero, List.set_cons_succ, List.getElem_toArray, List.getElem_cons_succ, List.getElem_cons_zero])
      refine wpAnyH_take (i := 3) (v := ?_) rfl (by kernel_rfl) (by kernel_rfl) (by kernel_rfl) (fun _ _ _ h => h) (Or.inl ⟨by rfl, ?_⟩) (by assumption) ?_
      rotate_left
      · intro w hSw
        (try dsimp only at hSw)
        go_simp
        (try with_reducible rfl)
      (try simp only [Act.put, List.setIfInBounds_toArray, List.set_cons_zero, List.set_cons_succ, List.getElem_toArray, List.getElem_cons_succ, List.getElem_cons_zero])
      refine wpAnyH_take (i := 4) (v := ?_) rfl (by kernel_rfl) (by kernel_rfl) (by kernel_rfl) (fun _ _ _ h => h) (Or.inl ⟨by rfl, ?_⟩) (by assumption) ?_
      rotate_left
      · intro w hSw
        (try dsimp only at hSw)
        go_simp
        (try with_reducible rfl)
      (try simp only [Act.put, List.setIfInBounds_toArray, List.set_cons_zero, List.set_cons_succ, List.getElem_toArray, List.getElem_cons_succ, List.getElem_cons_zero])
      refine wpAnyH_take (i := 5) (v := ?_) rfl (by kernel_rfl) (by kernel_rfl) (by kernel_rfl) (fun _ _ _ h => h) (Or.inl ⟨by rfl, ?_⟩) (by assumption) ?_
      rotate_left
      · intro w hSw
        (try dsimp only at hSw)
        go_simp
        (try with_reducible rfl)
      (try simp only [Act.put, List.setIfInBounds_toArray, List.set_cons_zero, List.set_cons_succ, List.getElem_toArray, List.getElem_cons_succ, List.getElem_cons_zero])
      refine wpAnyH_take (i := 6) (v := ?_) rfl (by kernel_rfl) (by kernel_rfl) (by kernel_rfl) (fun _ _ _ h => h) (Or.inl ⟨by rfl, ?_⟩) (by assumption) ?_
      rotate_left
      · intro w hSw
        (try dsimp only at hSw)
        go_simp
        (try with_reducible rfl)
      (try simp only [Act.put, List.setIfInBounds_toArray, List.set_cons_zero, List.set_cons_succ, List.getElem_toArray, List.getElem_cons_succ, List.getElem_cons_zero])
      refine wpAnyH_ready (rs := [7]) (by kernel_rfl) (by simp) ?_
      refine AllReadyH.cons rfl (fun K hK => ?_) AllReadyH.nil
      go_simp
      (go_at_call 8; refine (HL.out _).mono ?_; rintro e w9 ⟨rfl, hb⟩; have H9 := Lib.hid (H8.out.kept hb); have A9 := Lib.hid (A8.out.kept hb); have B9 := Lib.hid (B8.out.kept hb); have V9 := Lib.hid (V8.out.kept hb); have r9 := mz_row H9.out HEV.out; dsimp only at r9; clear hb)
      refine hK.out _ _ (by exact ⟨V9.out, r9⟩) (fun hHeld => ?_)
      clear hK K
      (try simp only [Act.put, List.setIfInBounds_toArray, List.set_cons_zero, List.set_cons_succ, List.getElem_toArray, List.getElem_cons_succ, List.getElem_cons_zero])
      refine wpAnyH_take (i := 8) (v := ?_) rfl (by kernel_rfl) (by kernel_rfl) (by kernel_rfl) (fun _ _ _ h => h) (Or.inl ⟨by rfl, ?_⟩) (by assumption) ?_
      rotate_left
      · intro w hSw
        (try dsimp only at hSw)
        go_simp
        (try with_reducible rfl)
      (try simp only [Act.put, List.setIfInBounds_toArray, List.set_cons_zero, List.set_cons_succ, List.getElem_toArray, List.getElem_cons_succ, List.getElem_cons_zero])
      refine wpAnyH_take (i := 9) (v := ?_) rfl (by kernel_rfl) (by kernel_rfl) (by kernel_rfl) (fun _ _ _ h => h) (Or.inl ⟨by rfl, ?_⟩) (by assumption) ?_
      rotate_left
      · intro w hSw
        (try dsimp only at hSw)
        go_simp
        (try with_reducible rfl)
      (try simp only [Act.put, List.setIfInBounds_toArray, List.set_cons_zero, List.set_cons_succ, List.getElem_toArray, List.getElem_cons_succ, List.getElem_cons_zero])
      refine wpAnyH_done (by kernel_rfl) ?_ _
      go_wp2
      go_ret
      exact ⟨rfl, H9.out.bel⟩
     ·obtain ⟨hq1, hq2, hq3⟩ := HNS.out hk2
      subst hq1
      subst hq2
      clear HTR HNS hk2
      have hp1 := and_add m.st.pc 2
      have hp2 := and_add m.st.pc 4
      obtain ⟨a70, -⟩ := a7
      obtain ⟨b70, -⟩ := b7
      by_cases hq4 : m'.st.pc = Wd.add m.st.pc 2
      ·have hc1 : (m'.st.pc == Wd.add m.st.pc 2) = true := by simp [hq4]
       clear hq3 hq4
       go_wp2_with (first | (go_at_call 8; refine (HL.out _).mono ?_; rintro e w9 ⟨rfl, hb⟩; have H9 := Lib.hid (H7.out.kept hb); clear hb))
       go_ret
       exact ⟨rfl, H9.out.bel⟩
      ·have hc1 : (m'.st.pc == Wd.add m.st.pc 2) = false := by simpa using hq4
       have hc2 : (m'.st.pc == Wd.add m.st.pc 4) = true := by simp [hq3.resolve_left hq4]
       clear hq3 hq4
       go_wp2_with (first | (go_at_call 8; refine (HL.out _).mono ?_; rintro e w9 ⟨rfl, hb⟩; have H9 := Lib.hid (H7.out.kept hb); clear hb))
       go_ret
       exact ⟨rfl, H9.out.bel⟩
    have hlt' : (k : Int) < (at' : Int) := by omega
    have hk0 : (0 : Int) ≤ (k : Int) := by omega
    have hw : wrap64 ((k : Int) + 1) = (k : Int) + 1 := wrap_small _ (by omega) (by have := HAT.out; omega)
    have HM := Lib.hid hm
    clear hm
    obtain ⟨hn9, hpre⟩ := hk.next hh hdn (by omega)
    have hst := fun (W : World) (h : MacAt W bm lo s hd m) => mstep_any bm lo s hd m (Mc.now Mc.none k) W h hk.pc hdn
    simp only [Mc.stepP_eq _ _ _ (Mc.now_pos _ _)] at hst
    rw [Mc.now_none] at hst hn9 hpre
    rcases hx : Mc.step (Mc.xOf s hd) m Mc.none with ⟨m', ⟨k', p', a', c'⟩⟩
    rw [hx] at hst hn9 hpre
    dsimp only [Mc.evC] at hst hn9 hpre
    have hev := Mc.pre_at hpre
    rw [hk.len] at hev
    have hln := HLN.out
    have CS := Lib.hid hst
    have HN := Lib.hid hn9
    have HEV := Lib.hid hev
    clear hst hn9 hpre hx hk hdn hh hp hev
    dsimp only [Mc.none] at CS
    go_wp2_with (go_at_call 19; refine (CS.out _ HM.out.mac).mono ?_; rintro e w5 ⟨rfl, hM5, hR5⟩; have H5 := Lib.hid (HM.out.moved hR5 hM5); clear hM5 hR5)
    have hb6 := Blk.new' w5 49 #[.int .i64 k', .int .i64 p', .int .i64 a', .int .i64 c'] w5.heap.size rfl (rfl : _ = 4)
    have H6 := Lib.hid (H5.out.alloc (.cells #[.int .i64 k', .int .i64 p', .int .i64 a', .int .i64 c'] 49))
    clear H5
    obtain ⟨q, hq⟩ : ∃ q, w5.heap.size = q := ⟨_, rfl⟩
    obtain ⟨W6, hW6⟩ : ∃ W6, w5.alloc (.cells #[.int .i64 k', .int .i64 p', .int .i64 a', .int .i64 c'] 49) = W6 := ⟨_, rfl⟩
    rw [hW6] at hb6 H6 ⊢
    rw [hq] at hb6 ⊢
    clear hq hW6
    have H7 := Lib.hid (H6.out.kept (Below.refl _ _).drew)
    have hb7 := hb6.kept (Below.refl _ _).drew
    clear H6 hb6
    have r7 := mz_row H7.out HEV.out
    dsimp only at r7
    have hkn : (k : Int) < (at' : Int) + 1 := by omega
    refine wp_region_held_drew (S := fun wx => Blk wx q 49 4 #[.int .i64 k', .int .i64 p', .int .i64 a', .int .i64 c'] ∧ wx.cell? ⟨g, k * 4, none⟩ = some (.int .i64 k') ∧ wx.cell? ⟨g, k * 4 + 1, none⟩ = some (.int .i64 p') ∧ wx.cell? ⟨g, k * 4 + 2, none⟩ = some (.int .i64 a') ∧ wx.cell? ⟨g, k * 4 + 3, none⟩ = some (.int .i64 c')) (by kernel_rfl) (⟨hb7, r7⟩) (fun hHeld => ?_)
    refine wpAnyH_take (i := 0) (v := ?_) rfl (by kernel_rfl) (by kernel_rfl) (by kernel_rfl) (fun _ _ _ h => h) (Or.inl ⟨by rfl, ?_⟩) (by assumption) ?_
    rotate_left
    · intro w hSw
      (try dsimp only at hSw)
      go_simp
      (try with_reducible rfl)
    (try simp only [Act.put, List.setIfInBounds_toArray, List.set_cons_zero, List.set_cons_succ, List.getElem_toArray, List.getElem_cons_succ, List.getElem_cons_zero])
    refine wpAnyH_take (i := 1) (v := ?_) rfl (by kernel_rfl) (by kernel_rfl) (by kernel_rfl) (fun _ _ _ h => h) (Or.inl ⟨by rfl, ?_⟩) (by assumption) ?_
    rotate_left
    · intro w hSw
      (try dsimp only at hSw)
      go_simp
      (try with_reducible rfl)
    (try simp only [Act.put, List.setIfInBounds_toArray, List.set_cons_zero, List.set_cons_succ, List.getElem_toArray, List.getElem_cons_succ, List.getElem_cons_zero])
    refine wpAnyH_take (i := 2) (v := ?_) rfl (by kernel_rfl) (by kernel_rfl) (by kernel_rfl) (fun _ _ _ h => h) (Or.inl ⟨by rfl, ?_⟩) (by assumption) ?_
    rotate_left
    · intro w hSw
      (try dsimp only at hSw)
      go_simp
      (try with_reducible rfl)
    (try simp only [Act.put, List.setIfInBounds_toArray, List.set_cons_zero, List.set_cons_succ, List.getElem_toArray, List.getElem_cons_succ, List.getElem_cons_zero])
    refine wpAnyH_take (i := 3) (v := _) rfl (by kernel_rfl) (by kernel_rfl) (by kernel_rfl) (fun _ _ _ h => h) (yieldsIf_load_blk evT (by rfl) rfl (fun _ h => h.1)) (by assumption) ?_
    (try simp only [Act.put, List.setIfInBounds_toArray, List.set_cons_zero, List.set_cons_succ, List.getElem_toArray, List.getElem_cons_succ, List.getElem_cons_zero])
    refine wpAnyH_take (i := 4) (v := ?_) rfl (by kernel_rfl) (by kernel_rfl) (by kernel_rfl) (fun _ _ _ h => h) (Or.inl ⟨by rfl, ?_⟩) (by assumption) ?_
    rotate_left
    · intro w hSw
      (try dsimp only at hSw)
      go_simp
      (try with_reducible rfl)
    (try simp only [Act.put, List.setIfInBounds_toArray, List.set_cons_zero, List.set_cons_succ, List.getElem_toArray, List.getElem_cons_succ, List.getElem_cons_zero])
    refine wpAnyH_take (i := 5) (v := ?_) rfl (by kernel_rfl) (by kernel_rfl) (by kernel_rfl) (fun _ _ _ h => h) (Or.inl ⟨by rfl, ?_⟩) (by assumption) ?_
    rotate_left
    · intro w hSw
      (try dsimp only at hSw)
      go_simp
      (try with_reducible rfl)
    (try simp only [Act.put, List.setIfInBounds_toArray, List.set_cons_zero, List.set_cons_succ, List.getElem_toArray, List.getElem_cons_succ, List.getElem_cons_zero])
    refine wpAnyH_take (i := 6) (v := ?_) rfl (by kernel_rfl) (by kernel_rfl) (by kernel_rfl) (fun _ _ _ h => h) (Or.inl ⟨by rfl, ?_⟩) (by assumption) ?_
    rotate_left
    · intro w hSw
      (try dsimp only at hSw)
      go_simp
      (try with_reducible rfl)
    (try simp only [Act.put, List.setIfInBounds_toArray, List.set_cons_zero, List.set_cons_succ, List.getElem_toArray, List.getElem_cons_succ, List.getElem_cons_zero])
    refine wpAnyH_take (i := 7) (v := ?_) rfl (by kernel_rfl) (by kernel_rfl) (by kernel_rfl) (fun _ _ _ h => h) (Or.inl ⟨by rfl, ?_⟩) (by assumption) ?_
    rotate_left
    · intro w hSw
      (try dsimp only at hSw)
      go_simp
      (try with_reducible rfl)
    (try simp only [Act.put, List.setIfInBounds_toArray, List.set_cons_zero, List.set_cons_succ, List.getElem_toArray, List.getElem_cons_succ, List.getElem_cons_zero])
    refine wpAnyH_take (i := 8) (v := ?_) rfl (by kernel_rfl) (by kernel_rfl) (by kernel_rfl) (fun _ _ _ h => h) (Or.inl ⟨by rfl, ?_⟩) (by assumption) ?_
    rotate_left
    · intro w hSw
      (try dsimp only at hSw)
      go_simp
      (try with_reducible rfl)
    (try simp only [Act.put, List.setIfInBounds_toArray, List.set_cons_zero, List.set_cons_succ, List.getElem_toArray, List.getElem_cons_succ, List.getElem_cons_zero])
    refine wpAnyH_take (i := 9) (v := ?_) rfl (by kernel_rfl) (by kernel_rfl) (by kernel_rfl) (fun _ _ _ h => h) (Or.inl ⟨by rfl, ?_⟩) (by assumption) ?_
    rotate_left
    · intro w hSw
      (try dsimp only at hSw)
      go_simp
      (try with_reducible rfl)
    (try simp only [Act.put, List.setIfInBounds_toArray, List.set_cons_zero, List.set_cons_succ, List.getElem_toArray, List.getElem_cons_succ, List.getElem_cons_zero])
    refine wpAnyH_done (by kernel_rfl) ?_ _
    go_wp2
    go_roundw
    case rel => exact ⟨k + 1, _, m', by simp [hw], by omega, HN.out, H7.out⟩
    case measure => rw [hw]; simp [intOf]; omega

set_option maxRecDepth 100000 in
theorem lifted (os : Os) (started : os.Started) (H : Type) (enc : TypeId × Value → H) :
    ReturnsInHanded {} Tryz.checked os 6 .any (Rows.machineSkipsSpec.pre6 enc Tryz.prog Tryz.f6 Rows.machineSkipsRow.domain false) (Rows.machineSkipsSpec.post enc Tryz.prog Tryz.f6 false true false false) := by
  refine returnsInHanded_of_change (C := Tryz.checked) own started (by kernel_rfl) Tryz.func6
    (ChangeSpec.witness6 (enc := enc) (C := Tryz.checked) false ⟨#[], #[.string ByteArray.empty, .string ByteArray.empty, .int .i64 0], []⟩ 8 (by kernel_rfl) (by kernel_rfl) (by kernel_rfl) (by kernel_rfl)) ?_
  intro W base args ds gs before hval0 hW hcnd _
  have hval : ∀ (j : Nat) t v, Tryz.f6.params[j]? = some t → args[j]? = some v → Value.okWide Tryz.prog W .any base t v := hval0
  have hW' := hW
  obtain ⟨p, q, hA0, hV, rfl, hfz, hnd⟩ := hW
  have hA : DataW.TrodAll enc Tryz.prog W 0 (fun _ => true) true Tryz.f6.params.toList args.toList ds p := hA0
  rw [Tryz.params6] at hA hval
  obtain ⟨v0, vs0, d0, ds0, p0, q0, hargs, rfl, rfl, h0, r0⟩ := trodAll_cons hA
  obtain ⟨v1, vs1, d1, ds1, p1, q1, rfl, rfl, rfl, h1, r1⟩ := trodAll_cons r0
  obtain ⟨v2, vs2, d2, ds2, p2, q2, rfl, rfl, rfl, h2, r2⟩ := trodAll_cons r1
  obtain ⟨rfl, rfl, rfl⟩ := trodAll_nil r2
  obtain rfl : args = #[v0, v1, v2] := by cases args; simp_all
  obtain ⟨rfl, rfl⟩ := trodVars_none hV
  obtain ⟨a0, rfl, rfl, rfl, w0⟩ := open_string Tryz.underlying9 (hval 0 9 v0 rfl rfl) h0
  obtain ⟨a1, rfl, rfl, rfl, w1⟩ := open_string Tryz.underlying9 (hval 1 9 v1 rfl rfl) h1
  obtain ⟨a2, rfl, rfl, rfl, w2⟩ := open_int Tryz.underlying3 (hval 2 3 v2 rfl rfl) h2
  clear hA0 hval0
  refine (walk a0 a1 a2 w0 w1 w2 W).mono fun e W' ⟨he, bel⟩ => ?_
  subst he
  exact ⟨_, rfl, _, _, _, [], _, [], hW', trodAll_mk1 (shut_bool Tryz.underlying4 _), (trodAll_cons_mk (shut_string Tryz.underlying9 w0) (trodAll_cons_mk (shut_string Tryz.underlying9 w1) (trodAll_cons_mk (shut_int Tryz.underlying3 w2) trodAll_mk0))), rfl, bel.frame _, fun h => by cases h⟩

theorem over : Rows.machineSkipsRow.holds Tryz.pinned (OpenSpec.ofChange Rows.machineSkipsSpec) :=
  OpenClaim.holds_of_wide 6 Tryz.f6 rfl rfl rfl rfl rfl rfl rfl ⟨rfl, rfl, rfl, rfl, rfl⟩ rfl rfl rfl rfl rfl (by kernel_rfl) Tryz.func6 (by kernel_rfl)
    (of_decide_eq_true (by kernel_rfl)) (by unfold Func.isWrapper; first | (rw [if_pos (by decide +kernel)]; kernel_rfl) | (rw [if_neg (by decide +kernel)]; exact ⟨rfl, rfl⟩))
    (fun os started H enc _ => lifted os started H enc)

/-- the statement -/
theorem proved : Rows.MachineSkipsSaid := over
#print axioms proved
end Go.Proofs.YthciobjklhkkcaaGreat.machineSkips
