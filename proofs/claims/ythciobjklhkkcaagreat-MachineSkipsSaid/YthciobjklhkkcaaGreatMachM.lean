/-
 Package machine: what Step and New return.
-/
import Derived.Test.YthciobjklhkkcaaGreatMachL
import Derived.Test.YthciobjklhkkcaaGreatP08d
import Derived.Test.YthciobjklhkkcaaGreatP08b
namespace Go.Proofs.YthciobjklhkkcaaGreat
open Go.ChangeShapes Go.WideShapes Go.ChangeAt Go.RowKit
set_option maxHeartbeats 8000000
set_option maxRecDepth 10000
set_option linter.unusedVariables false
set_option linter.unusedSimpArgs false

theorem Mc.hit_pc (s : Cs.St) (f : Mc.F) : (Mc.hit s f).pc = s.pc := by
 unfold Mc.hit
 split
 ·rfl
 split <;> rfl
theorem mstep_any (b : Nat) (l : My.Loc) (s : My.St) (hd : Int) (m : Mc.M) (f : Mc.F) (w : World) (hm : MacAt w b l s hd m) (hp : 0 ≤ m.st.pc) (hdn : m.done = false) :
  Calls Tryz.prog 19 #[.pointer (some ⟨b, 0, none⟩), .agg #[.int .i64 f.kind, .int .i64 f.step, .int .i64 f.reg, .int .i64 f.bit]] w fun e w' => e = .returned (.tuple #[.agg (Mc.evC (Mc.stepP (Mc.xOf s hd) m f).2), .bool true]) ∧ MacAt w' b l s hd (Mc.stepP (Mc.xOf s hd) m f).1 ∧ Rest (Mc.mine b l) w w' := by
 have hC := fun W : World => may_any f.kind f.step f.reg f.bit W
 cases hf : Mc.mayF f
 ·have e : Mc.realP f = Mc.none := by unfold Mc.realP; rw [hf]; rfl
  unfold Mc.stepP
  rw [e]
  have hC' : ∀ W : World, _ := hC
  have hq : Mc.mayF ⟨f.kind, f.step, f.reg, f.bit⟩ = false := hf
  rw [hq] at hC
  have hpc : (Mc.hit m.st Mc.none).pc = m.st.pc := rfl
  exact step_n b l s hd m _ f.kind f.step f.reg f.bit _ _ _ _ _ w (Lib.hid hm) hdn (Lib.hid hC) (Lib.hid fun W => turned_any m.st Mc.none W rfl) (Lib.hid fun W h => attempt_any b l s hd _ false W h hp)
 ·have e : Mc.realP f = f := by unfold Mc.realP; rw [hf]; rfl
  unfold Mc.stepP
  rw [e]
  have hq : Mc.mayF ⟨f.kind, f.step, f.reg, f.bit⟩ = true := hf
  rw [hq] at hC
  exact step_y b l s hd m _ f.kind f.step f.reg f.bit _ _ _ _ _ (f.kind == 1) w (Lib.hid hm) hdn rfl (Lib.hid hC) (Lib.hid fun W => turned_any m.st f W hf) (Lib.hid fun W h => attempt_any b l s hd _ _ W h (by show 0 ≤ (Mc.hit m.st f).pc; rw [Mc.hit_pc]; exact hp))
theorem headT : StructT 84 6 := ⟨⟨_, Tryz.underlying84⟩, by kernel_rfl⟩
theorem machT : StructT 71 24 := ⟨⟨_, Tryz.underlying71⟩, by kernel_rfl⟩
theorem new_p (img inp : ByteArray) (r h i o l md E : Int) (w : World) (hP : Hid (Im.parse img = (⟨r, h, i, o, l, md⟩, E))) (hE : ¬ E = 0) :
  Calls Tryz.prog 17 #[.string img, .string inp] w fun e w' => e = .returned (.tuple #[.pointer none, .int .i64 E]) ∧ Below w.heap.size w w' := by
 have C := Lib.hid (fun W => parse_any img W)
 rw [hP.out] at C
 have hE' : (E != 0) = true := by simpa using hE
 go_enter Tryz.func17, Tryz.ntmps17
 go_wp2_with (go_at_call 30; refine (C.out _).mono ?_; rintro e w1 ⟨rfl, hb1⟩; have HB := Lib.hid hb1; clear hb1)
 exact bodyPost_ret (v := .tuple #[.pointer none, .int .i64 E]) (by simp [results, Tryz.results17, go_sem]) rfl ⟨rfl, HB.out.alloc HB.out.size _⟩
theorem new_m (img inp : ByteArray) (r h i o l md E : Int) (w : World) (hP : Hid (Im.parse img = (⟨r, h, i, o, l, md⟩, 0))) (hE : ¬ E = 0)
  (CN : Hid (∀ W : World, Calls Tryz.prog 31 #[.agg #[.int .i64 i, .int .i64 o, .int .i64 l], .string img, .string inp] W fun e w' => e = .returned (.tuple #[.pointer none, .int .i64 E]) ∧ Below W.heap.size W w')) :
  Calls Tryz.prog 17 #[.string img, .string inp] w fun e w' => e = .returned (.tuple #[.pointer none, .int .i64 E]) ∧ Below w.heap.size w w' := by
 have C := Lib.hid (fun W => parse_any img W)
 rw [hP.out] at C
 have hE' : (E != 0) = true := by simpa using hE
 go_enter Tryz.func17, Tryz.ntmps17
 go_wp2_with (first | (go_at_call 30; refine (C.out _).mono ?_; rintro e w1 ⟨rfl, hb1⟩; have HB := Lib.hid (hb1.alloc hb1.size (.cells #[.int .i64 r, .int .i64 h, .int .i64 i, .int .i64 o, .int .i64 l, .int .i64 md] 84)); clear hb1) | (go_at_call 31; refine (CN.out _).mono ?_; rintro e w2 ⟨rfl, hb2⟩; have HB2 := Lib.hid (HB.out.trans (hb2.mono HB.out.size)); clear hb2))
 exact bodyPost_ret (v := .tuple #[.pointer none, .int .i64 E]) (by simp [results, Tryz.results17, go_sem]) rfl ⟨rfl, HB2.out⟩
theorem MemAt.newer {W : World} {l : My.Loc} {s : My.St} {M : Int → UInt8} (h : MemAt W l s M) {k : Nat} (hk : W.heap.size ≤ k) : k ≠ l.p ∧ k ≠ l.ra.block ∧ k ≠ l.ba ∧ ¬ l.own k := by
 have h1 := cell_lt h.f0
 have h2 := cell_lt (h.reg 0 (by decide) 0 _ rfl)
 have h3 := cell_lt (h.row 0 (by decide))
 rw [add_zero', add_block] at h2
 refine ⟨fun e => ?_, fun e => ?_, fun e => ?_, ?_⟩
 iterate 3 (subst e; simp only at h1 h2 h3; omega)
 rintro ⟨i, hi, rfl⟩
 have := (h.bytes i hi).lt
 omega
/-- the machine that starts -/
def Mc.start (s : My.St) (r : Int) : Mc.M := ⟨Mc.first r, My.first s, false⟩
theorem new_y (img inp : ByteArray) (r h i o l md : Int) (w : World) (hP : Hid (Im.parse img = (⟨r, h, i, o, l, md⟩, 0))) (hg : Hid (My.good ⟨i, o, l, img, inp⟩)) :
  Calls Tryz.prog 17 #[.string img, .string inp] w fun e w' => ∃ b lo, e = .returned (.tuple #[.pointer (some ⟨b, 0, none⟩), .int .i64 0]) ∧ MacAt w' b lo ⟨i, o, l, img, inp⟩ h (Mc.start ⟨i, o, l, img, inp⟩ r) ∧ (∀ k, Mc.mine b lo k → w.heap.size ≤ k) ∧ Below w.heap.size w w' := by
 have C := Lib.hid (fun W => parse_any img W)
 rw [hP.out] at C
 have CN := Lib.hid (fun W : World => new_ok ⟨i, o, l, img, inp⟩ W hg)
 have hfl : (⟨(My.row (My.first ⟨i, o, l, img, inp⟩) (My.bs ⟨i, o, l, img, inp⟩ 0) (My.ln ⟨i, o, l, img, inp⟩ 0)).toArray⟩ : ByteArray) = img := by
  have h0 : My.bs ⟨i, o, l, img, inp⟩ 0 = 0 := rfl
  rw [h0, My.ln_0, My.row_flash]
 have CR := Lib.hid (fun (lo : My.Loc) (W : World) (hM : MemAt W lo ⟨i, o, l, img, inp⟩ (My.first ⟨i, o, l, img, inp⟩)) => region_ok lo ⟨i, o, l, img, inp⟩ (My.first ⟨i, o, l, img, inp⟩) 0 W (Lib.hid hM) (by decide))
 rw [hfl] at CR
 clear hfl hP
 go_enter Tryz.func17, Tryz.ntmps17
 go_wp2_with (first | (go_at_call 30; refine (C.out _).mono ?_; rintro e w1 ⟨rfl, hb1⟩; have HB := Lib.hid (hb1.alloc hb1.size (.cells #[.int .i64 r, .int .i64 h, .int .i64 i, .int .i64 o, .int .i64 l, .int .i64 md] 84)); have HH := Lib.hid (Blk.new' w1 84 #[.int .i64 r, .int .i64 h, .int .i64 i, .int .i64 o, .int .i64 l, .int .i64 md] w1.heap.size rfl rfl : Blk _ _ _ 6 _); clear hb1) | (go_at_call 31; refine (CN.out _).mono ?_; rintro e w2 ⟨lo, rfl, hM2, ho2, hb2⟩; have HO2 := Lib.hid (fun k hk => Nat.le_trans HB.out.size (ho2 k hk)); have HM2 := Lib.hid hM2; have HH2 := Lib.hid (HH.out.kept hb2); have HB2 := Lib.hid (HB.out.trans (hb2.mono HB.out.size)); clear hb2 hM2 ho2 HB HH) | (go_at_call 32; refine (CR.out _ _ HM2.out).mono ?_; rintro e w3 ⟨rfl, hb3⟩; have HM3 := Lib.hid (HM2.out.kept hb3); have HH3 := Lib.hid (HH2.out.kept hb3); have HB3 := Lib.hid (HB2.out.trans (hb3.mono HB2.out.size)); clear hb3 HM2 HH2 HB2))
 obtain ⟨c, hc⟩ : ∃ c, w1.heap.size = c := ⟨_, rfl⟩
 rw [hc] at HH3 ⊢
 have HD := HH3.out.kept (Below.refl _ _).drew
 refine wp_region_held_drew (S := fun wx => Blk wx c 84 6 #[.int .i64 r, .int .i64 h, .int .i64 i, .int .i64 o, .int .i64 l, .int .i64 md]) (by kernel_rfl) HD (fun hHeld => ?_)
 refine wpAnyH_take (i := 0) (v := ?_) rfl (by kernel_rfl) (by kernel_rfl) (by kernel_rfl) (fun _ _ _ h => h) (Or.inl ⟨by rfl, ?_⟩) (by assumption) ?_
 rotate_left
 ·intro w hSw
  (try dsimp only at hSw)
  go_simp
  (try with_reducible rfl)
 (try simp only [Act.put, List.setIfInBounds_toArray, List.set_cons_zero, List.set_cons_succ, List.getElem_toArray, List.getElem_cons_succ, List.getElem_cons_zero])
 refine wpAnyH_take (i := 1) (v := ?_) rfl (by kernel_rfl) (by kernel_rfl) (by kernel_rfl) (fun _ _ _ h => h) (Or.inl ⟨by rfl, ?_⟩) (by assumption) ?_
 rotate_left
 ·intro w hSw
  (try dsimp only at hSw)
  go_simp
  (try with_reducible rfl)
 (try simp only [Act.put, List.setIfInBounds_toArray, List.set_cons_zero, List.set_cons_succ, List.getElem_toArray, List.getElem_cons_succ, List.getElem_cons_zero])
 refine wpAnyH_take (i := 2) (v := ?_) rfl (by kernel_rfl) (by kernel_rfl) (by kernel_rfl) (fun _ _ _ h => h) (Or.inl ⟨by rfl, ?_⟩) (by assumption) ?_
 rotate_left
 ·intro wx hSw
  (try dsimp only at hSw)
  have hc1 : wx.cell? ⟨c, 1, none⟩ = some (.int .i64 h) := hSw.cell 1
  go_simp
  (try with_reducible rfl)
 (try simp only [Act.put, List.setIfInBounds_toArray, List.set_cons_zero, List.set_cons_succ, List.getElem_toArray, List.getElem_cons_succ, List.getElem_cons_zero])
 refine wpAnyH_take (i := 3) (v := ?_) rfl (by kernel_rfl) (by kernel_rfl) (by kernel_rfl) (fun _ _ _ h => h) (Or.inl ⟨by rfl, ?_⟩) (by assumption) ?_
 rotate_left
 ·intro w hSw
  (try dsimp only at hSw)
  go_simp
  (try with_reducible rfl)
 (try simp only [Act.put, List.setIfInBounds_toArray, List.set_cons_zero, List.set_cons_succ, List.getElem_toArray, List.getElem_cons_succ, List.getElem_cons_zero])
 refine wpAnyH_take (i := 4) (v := ?_) rfl (by kernel_rfl) (by kernel_rfl) (by kernel_rfl) (fun _ _ _ h => h) (Or.inl ⟨by rfl, ?_⟩) (by assumption) ?_
 rotate_left
 ·intro w hSw
  (try dsimp only at hSw)
  go_simp
  (try with_reducible rfl)
 (try simp only [Act.put, List.setIfInBounds_toArray, List.set_cons_zero, List.set_cons_succ, List.getElem_toArray, List.getElem_cons_succ, List.getElem_cons_zero])
 refine wpAnyH_take (i := 5) (v := ?_) rfl (by kernel_rfl) (by kernel_rfl) (by kernel_rfl) (fun _ _ _ h => h) (Or.inl ⟨by rfl, ?_⟩) (by assumption) ?_
 rotate_left
 ·intro wx hSw
  (try dsimp only at hSw)
  have hc0 : wx.cell? ⟨c, 0, none⟩ = some (.int .i64 r) := hSw.cell 0
  go_simp
  (try with_reducible rfl)
 (try simp only [Act.put, List.setIfInBounds_toArray, List.set_cons_zero, List.set_cons_succ, List.getElem_toArray, List.getElem_cons_succ, List.getElem_cons_zero])
 refine wpAnyH_ready (rs := [6]) (by kernel_rfl) (by simp) ?_
 refine AllReadyH.cons rfl (fun K hK => ?_) AllReadyH.nil
 go_simp
 go_at_call 33; refine (first_any _ _).mono ?_; rintro e w5 ⟨rfl, hb5⟩
 have H5 := HD.kept hb5
 have HM5 := Lib.hid ((HM3.out.kept (Below.refl _ _).drew).kept hb5)
 have HB5 := Lib.hid ((HB3.out.drew).trans (hb5.mono HB3.out.drew.size))
 refine hK.out _ _ H5 (fun hHeld => ?_)
 clear hK K hb5
 (try simp only [Act.put, List.setIfInBounds_toArray, List.set_cons_zero, List.set_cons_succ, List.getElem_toArray, List.getElem_cons_succ, List.getElem_cons_zero])
 refine wpAnyH_take (i := 7) (v := .agg (Mc.cells img h lo.p (Mc.start ⟨i, o, l, img, inp⟩ r))) rfl (by kernel_rfl) (by kernel_rfl) (by kernel_rfl) (fun _ _ _ h => h) (Or.inl ⟨by rfl, ?_⟩) (by assumption) ?_
 ·intro w hSw
  go_simp
  kernel_rfl
 (try simp only [Act.put, List.setIfInBounds_toArray, List.set_cons_zero, List.set_cons_succ, List.getElem_toArray, List.getElem_cons_succ, List.getElem_cons_zero])
 refine wpAnyH_ready (rs := [8]) (by kernel_rfl) (by simp) ?_
 refine AllReadyH.cons rfl (fun K hK => ?_) AllReadyH.nil
 go_simp
 have hB6 := HB5.out.alloc HB5.out.size (.cells (Mc.cells img h lo.p (Mc.start ⟨i, o, l, img, inp⟩ r)) 71)
 have hA6 : MacAt (w5.alloc (.cells (Mc.cells img h lo.p (Mc.start ⟨i, o, l, img, inp⟩ r)) 71)) w5.heap.size lo ⟨i, o, l, img, inp⟩ h (Mc.start ⟨i, o, l, img, inp⟩ r) := ⟨heap_alloc_last w5 _, HM5.out.kept ((Below.refl _ _).alloc (Nat.le_refl _) _), hg.out, HM5.out.newer (Nat.le_refl _)⟩
 refine hK.out _ _ (H5.alloc _) (fun hHeld => ?_)
 clear hK K
 (try simp only [Act.put, List.setIfInBounds_toArray, List.set_cons_zero, List.set_cons_succ, List.getElem_toArray, List.getElem_cons_succ, List.getElem_cons_zero])
 refine wpAnyH_take (i := 9) (v := ?_) rfl (by kernel_rfl) (by kernel_rfl) (by kernel_rfl) (fun _ _ _ h => h) (Or.inl ⟨by rfl, ?_⟩) (by assumption) ?_
 rotate_left
 ·intro w hSw
  (try dsimp only at hSw)
  go_simp
  (try with_reducible rfl)
 (try simp only [Act.put, List.setIfInBounds_toArray, List.set_cons_zero, List.set_cons_succ, List.getElem_toArray, List.getElem_cons_succ, List.getElem_cons_zero])
 refine wpAnyH_take (i := 10) (v := ?_) rfl (by kernel_rfl) (by kernel_rfl) (by kernel_rfl) (fun _ _ _ h => h) (Or.inl ⟨by rfl, ?_⟩) (by assumption) ?_
 rotate_left
 ·intro w hSw
  (try dsimp only at hSw)
  go_simp
  (try with_reducible rfl)
 (try simp only [Act.put, List.setIfInBounds_toArray, List.set_cons_zero, List.set_cons_succ, List.getElem_toArray, List.getElem_cons_succ, List.getElem_cons_zero])
 refine wpAnyH_done (by kernel_rfl) ?_ _
 go_wp2_with fail
 refine bodyPost_ret (v := .tuple #[.pointer (some ⟨w5.heap.size, 0, none⟩), .int .i64 0]) (by simp [results, Tryz.results17, go_sem]) rfl ⟨w5.heap.size, lo, rfl, hA6, fun k hk => ?_, hB6⟩
 rcases hk with rfl | hk
 ·exact HB5.out.size
 ·exact HO2.out k hk
end Go.Proofs.YthciobjklhkkcaaGreat
