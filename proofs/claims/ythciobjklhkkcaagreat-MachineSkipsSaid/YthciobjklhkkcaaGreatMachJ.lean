/-
 Package machine: what attempt returns.
-/
import Derived.Test.YthciobjklhkkcaaGreatMachI
namespace Go.Proofs.YthciobjklhkkcaaGreat
open Go.ChangeShapes Go.WideShapes Go.ChangeAt Go.RowKit
set_option maxHeartbeats 8000000
set_option maxRecDepth 10000
set_option linter.unusedVariables false
set_option linter.unusedSimpArgs false

/-- the cells of an event -/
def Mc.evC (v : Mc.Ev) : Array Value := #[.int .i64 v.kind, .int .i64 v.pc, .int .i64 v.addr, .int .i64 v.cyc]
/-- behind attempt's first lines -/
theorem at_start {w W2 : World} {b : Nat} {l : My.Loc} {s : My.St} {hd : Int} {m : Mc.M} {pc : Int} (hm : MacAt w b l s hd m) (hW : (w.alloc (.cells #[.pointer (some ⟨b, 0, none⟩)] 45)).alloc (.cells #[.int .i64 0, .int .i64 0, .int .i64 0, .int .i64 0] 49) = W2) :
  At3 (W2.alloc (.cells #[.int .i64 pc] 3)) w.heap.size (w.heap.size + 1 + 1) (w.heap.size + 1) b l s hd m pc #[.int .i64 0, .int .i64 0, .int .i64 0, .int .i64 0] ∧ Below w.heap.size w (W2.alloc (.cells #[.int .i64 pc] 3)) ∧ W2.heap.size = w.heap.size + 1 + 1 ∧ MacAt W2 b l s hd m ∧ W2.cell? ⟨w.heap.size, 0, none⟩ = some (.pointer (some ⟨b, 0, none⟩)) := by
 have hz : W2.heap.size = w.heap.size + 1 + 1 := by rw [← hW]; simp
 have hb : Below w.heap.size w W2 := by rw [← hW]; exact ((Below.refl _ _).alloc (Nat.le_refl _) _).alloc (by simp) _
 have hm2 : MacAt W2 b l s hd m := by rw [← hW]; exact (hm.alloc _).alloc _
 have hc : W2.cell? ⟨w.heap.size, 0, none⟩ = some (.pointer (some ⟨b, 0, none⟩)) := by rw [← hW]; simp [go_sem]
 have he : Blk W2 (w.heap.size + 1) 49 4 #[.int .i64 0, .int .i64 0, .int .i64 0, .int .i64 0] := by rw [← hW]; exact Blk.new' _ _ _ _ (by simp) rfl
 have ha : Below W2.heap.size W2 (W2.alloc (.cells #[.int .i64 pc] 3)) := (Below.refl _ _).alloc (Nat.le_refl _) _
 refine ⟨⟨by rw [ha.cell (cell_lt hc)]; exact hc, ?_, he.kept ha, hm2.kept ha, ⟨hm.newer (Nat.le_refl _), hm.newer (by omega), hm.newer (by omega)⟩, ⟨by omega, by omega⟩⟩, hb.trans (ha.mono hb.size), hz, hm2, hc⟩
 rw [← hz]; simp [go_sem]
theorem rest_new {X : Nat → Prop} {w w4 w5 : World} {g : Nat} (hb : Below w.heap.size w w4) (hr : Rest (fun k => X k ∨ k = g) w4 w5) (hg : w.heap.size ≤ g) : Rest X w w5 :=
 ⟨hr.os.trans hb.os, hr.tape.trans hb.tape, hr.output.trans hb.output, Nat.le_trans hb.size hr.size, fun k hk hx => (hr.block k (Nat.lt_of_lt_of_le hk hb.size) (fun h => h.elim hx (fun e => by omega))).trans (hb.block k hk)⟩
theorem att_bad (b : Nat) (l : My.Loc) (s : My.St) (hd : Int) (m : Mc.M) (pc : Int) (skip : Bool) (w : World) (hm : Hid (MacAt w b l s hd m)) (hpc : m.st.pc = pc)
  (HF : Hid (∀ W, MacAt W b l s hd m → Calls Tryz.prog 56 #[.pointer (some ⟨b, 0, none⟩)] W fun e w' => e = gaveUp 0 ∧ Below W.heap.size W w')) :
  Calls Tryz.prog 35 #[.pointer (some ⟨b, 0, none⟩), .bool skip] w fun e w' => e = .returned (.agg #[.int .i64 2, .int .i64 pc, .int .i64 0, .int .i64 12]) ∧ MacAt w' b l s hd { m with st := { m.st with pc := hd } } ∧ Rest (Mc.mine b l) w w' := by
 have hmf : ∀ (fn : Fn) (first cap : Array Value) (w : World), (Instr.makeFunc fn first cap).run Tryz.prog w = .ok (.func fn first cap) w := fun _ _ _ _ => rfl
 obtain ⟨W2, hW⟩ : ∃ W2, (w.alloc (.cells #[.pointer (some ⟨b, 0, none⟩)] 45)).alloc (.cells #[.int .i64 0, .int .i64 0, .int .i64 0, .int .i64 0] 49) = W2 := ⟨_, rfl⟩
 obtain ⟨hA, hB, hz, hm2, cm⟩ := at_start (pc := pc) hm.out hW
 have c18 := hm2.pc
 rw [hpc] at c18
 have HA := Lib.hid hA
 have HB := Lib.hid hB
 have cm3 := hA.cm
 clear hA hB hm2 hpc
 go_enter_defers Tryz.func35, Tryz.ntmps35
 go_wp2_with (go_at_call 56; refine (HF.out _ HA.out.mac).mono ?_; rintro e w4 ⟨rfl, hb4⟩; have H4 := Lib.hid (HA.out.kept hb4); have HB4 := Lib.hid (HB.out.trans (hb4.mono HB.out.size)); clear hb4 HA HB cm3)
 refine leaves_cons (f := 55) (args := #[.pointer (some ⟨w.heap.size, 0, none⟩), .pointer (some ⟨w.heap.size + 1 + 1, 0, none⟩), .pointer (some ⟨w.heap.size + 1, 0, none⟩)]) (by simp) (by simp [go_sem]) ?_
 refine (catch_p _ _ _ b l s hd m pc 0 _ _ H4).mono ?_
 rintro e u' w5 ⟨rfl, rfl, h5, hr5⟩
 have e0 : w5.cell? ⟨w.heap.size + 1, 0, none⟩ = some (.int .i64 2) := h5.ev.cell 0
 have e1 : w5.cell? ⟨w.heap.size + 1, 1, none⟩ = some (.int .i64 pc) := h5.ev.cell 1
 have e2 : w5.cell? ⟨w.heap.size + 1, 2, none⟩ = some (.int .i64 0) := h5.ev.cell 2
 have e3 : w5.cell? ⟨w.heap.size + 1, 3, none⟩ = some (.int .i64 12) := h5.ev.cell 3
 simp [Leaves, settle, results, Tryz.results35, go_sem, e0, e1, e2, e3]
 exact ⟨h5.mac, rest_new HB4.out hr5 (by omega)⟩
theorem att_skip (b : Nat) (l : My.Loc) (s : My.St) (hd : Int) (m : Mc.M) (pc L : Int) (op rd rn rm ra imm cond : Int) (wide : Bool) (w : World) (hm : Hid (MacAt w b l s hd m)) (hpc : m.st.pc = pc)
  (HF : Hid (∀ W, MacAt W b l s hd m → Calls Tryz.prog 56 #[.pointer (some ⟨b, 0, none⟩)] W fun e w' => e = .returned (.tuple #[.agg #[.int .i64 op, .int .i64 rd, .int .i64 rn, .int .i64 rm, .int .i64 ra, .int .i64 imm, .int .i64 cond, .bool wide], .int .i64 L]) ∧ Below W.heap.size W w')) :
  Calls Tryz.prog 35 #[.pointer (some ⟨b, 0, none⟩), .bool true] w fun e w' => e = .returned (.agg #[.int .i64 1, .int .i64 pc, .int .i64 0, .int .i64 1]) ∧ MacAt w' b l s hd { m with st := { m.st with pc := Wd.add pc L } } ∧ Rest (Mc.mine b l) w w' := by
 have hmf : ∀ (fn : Fn) (first cap : Array Value) (w : World), (Instr.makeFunc fn first cap).run Tryz.prog w = .ok (.func fn first cap) w := fun _ _ _ _ => rfl
 obtain ⟨W2, hW⟩ : ∃ W2, (w.alloc (.cells #[.pointer (some ⟨b, 0, none⟩)] 45)).alloc (.cells #[.int .i64 0, .int .i64 0, .int .i64 0, .int .i64 0] 49) = W2 := ⟨_, rfl⟩
 obtain ⟨hA, hB, hz, hm2, cm⟩ := at_start (pc := pc) hm.out hW
 have c18 := hm2.pc
 rw [hpc] at c18
 have HA := Lib.hid hA
 have HB := Lib.hid hB
 have cm3 := hA.cm
 clear hA hB hm2
 go_enter_defers Tryz.func35, Tryz.ntmps35
 go_wp2_with (go_at_call 56; refine (HF.out _ HA.out.mac).mono ?_; rintro e w4 ⟨rfl, hb4⟩; have H4 := Lib.hid ((HA.out.kept hb4).kept (W' := w4.alloc (.cells #[.int .i64 op, .int .i64 rd, .int .i64 rn, .int .i64 rm, .int .i64 ra, .int .i64 imm, .int .i64 cond, .bool wide] 123)) ((Below.refl _ _).alloc (Nat.le_refl _) _)); have HB4 := Lib.hid ((HB.out.trans (hb4.mono HB.out.size)).alloc (HB.out.trans (hb4.mono HB.out.size)).size (.cells #[.int .i64 op, .int .i64 rd, .int .i64 rn, .int .i64 rm, .int .i64 ra, .int .i64 imm, .int .i64 cond, .bool wide] 123)); have HI4 := Lib.hid (Blk.new' w4 123 #[.int .i64 op, .int .i64 rd, .int .i64 rn, .int .i64 rm, .int .i64 ra, .int .i64 imm, .int .i64 cond, .bool wide] w4.heap.size rfl rfl : Blk _ _ _ 8 _); clear hb4 HA HB cm3; have cm4 := H4.out.cm; have cp4 := H4.out.cp)
 obtain ⟨D0, hD0⟩ : ∃ D, w4.alloc (.cells #[.int .i64 op, .int .i64 rd, .int .i64 rn, .int .i64 rm, .int .i64 ra, .int .i64 imm, .int .i64 cond, .bool wide] 123) = D := ⟨_, rfl⟩
 rw [hD0] at H4 HB4 cm4 cp4 ⊢
 clear hD0 HI4
 go_still_tail 7, (by kernel_rfl)
 still_call (still (add_any _ _ _))
 repeat still_step
 try refine wpStill_nil ?_
 change wpList _ _ _ _ _ D0.drew
 have H5 := Lib.hid (H4.out.kept (Below.refl _ _).drew)
 have HB5 := Lib.hid (HB4.out.drew)
 clear cm4 cp4 H4 HB4
 generalize D0.drew = D at *
 have c18d := H5.out.mac.pc
 have fz := H5.out.mac.open 18
 have cp := H5.out.cp
 have HU := Lib.hid (H5.out.moved (rest_setCell D ⟨b, 18, none⟩ (.int .i64 (Wd.add pc L)) (.inl rfl)) (H5.out.mac.setPc (Wd.add pc L)))
 go_wp2_with ((with_reducible refine wpList_store_blk evT HU.out.ev (fits4 1 pc 0 1) ?_ ?_); exact rfl)
 have hE := HU.out.evRow (ds := #[.int .i64 1, .int .i64 pc, .int .i64 0, .int .i64 1]) rfl
 have hR : Rest (fun k => Mc.mine b l k ∨ k = w.heap.size + 1) D ((D.setCell ⟨b, 18, none⟩ (.int .i64 (Wd.add pc L))).setRow (w.heap.size + 1) #[.int .i64 1, .int .i64 pc, .int .i64 0, .int .i64 1]) := (rest_setCell D ⟨b, 18, none⟩ (.int .i64 (Wd.add pc L)) (.inl (.inl rfl))).trans (Rest.setRow (.inr rfl) _)
 generalize World.setRow _ _ _ = U at *
 refine leaves_cons (f := 55) (args := #[.pointer (some ⟨w.heap.size, 0, none⟩), .pointer (some ⟨w.heap.size + 1 + 1, 0, none⟩), .pointer (some ⟨w.heap.size + 1, 0, none⟩)]) (by simp) (by simp [go_sem]) ?_
 refine (catch_idle _ _ _ b l s hd _ pc _ _ (Lib.hid hE)).mono ?_
 rintro e u' w5 ⟨rfl, rfl, hb5⟩
 have h5 := hE.kept hb5
 have e0 : w5.cell? ⟨w.heap.size + 1, 0, none⟩ = some (.int .i64 1) := h5.ev.cell 0
 have e1 : w5.cell? ⟨w.heap.size + 1, 1, none⟩ = some (.int .i64 pc) := h5.ev.cell 1
 have e2 : w5.cell? ⟨w.heap.size + 1, 2, none⟩ = some (.int .i64 0) := h5.ev.cell 2
 have e3 : w5.cell? ⟨w.heap.size + 1, 3, none⟩ = some (.int .i64 1) := h5.ev.cell 3
 simp [Leaves, settle, results, Tryz.results35, go_sem, e0, e1, e2, e3]
 exact ⟨h5.mac, (rest_new HB5.out hR (by omega)).trans (Rest.of hb5)⟩
theorem att_do (b : Nat) (l : My.Loc) (s : My.St) (hd : Int) (m m' : Mc.M) (pc L k' p' a' c' : Int) (op rd rn rm ra imm cond : Int) (wide : Bool) (w : World) (hm : Hid (MacAt w b l s hd m)) (hpc : m.st.pc = pc)
  (HF : Hid (∀ W, MacAt W b l s hd m → Calls Tryz.prog 56 #[.pointer (some ⟨b, 0, none⟩)] W fun e w' => e = .returned (.tuple #[.agg #[.int .i64 op, .int .i64 rd, .int .i64 rn, .int .i64 rm, .int .i64 ra, .int .i64 imm, .int .i64 cond, .bool wide], .int .i64 L]) ∧ Below W.heap.size W w'))
  (HG : Hid (∀ W, MacAt W b l s hd m → Calls Tryz.prog 58 #[.pointer (some ⟨b, 0, none⟩), .agg #[.int .i64 op, .int .i64 rd, .int .i64 rn, .int .i64 rm, .int .i64 ra, .int .i64 imm, .int .i64 cond, .bool wide]] W fun e w' => e = .returned (.agg #[.int .i64 k', .int .i64 p', .int .i64 a', .int .i64 c']) ∧ MacAt w' b l s hd m' ∧ Rest (Mc.mine b l) W w')) :
  Calls Tryz.prog 35 #[.pointer (some ⟨b, 0, none⟩), .bool false] w fun e w' => e = .returned (.agg #[.int .i64 k', .int .i64 p', .int .i64 a', .int .i64 c']) ∧ MacAt w' b l s hd m' ∧ Rest (Mc.mine b l) w w' := by
 have hmf : ∀ (fn : Fn) (first cap : Array Value) (w : World), (Instr.makeFunc fn first cap).run Tryz.prog w = .ok (.func fn first cap) w := fun _ _ _ _ => rfl
 obtain ⟨W2, hW⟩ : ∃ W2, (w.alloc (.cells #[.pointer (some ⟨b, 0, none⟩)] 45)).alloc (.cells #[.int .i64 0, .int .i64 0, .int .i64 0, .int .i64 0] 49) = W2 := ⟨_, rfl⟩
 obtain ⟨hA, hB, hz, hm2, cm⟩ := at_start (pc := pc) hm.out hW
 have c18 := hm2.pc
 rw [hpc] at c18
 have HA := Lib.hid hA
 have HB := Lib.hid hB
 have cm3 := hA.cm
 clear hA hB hm2
 go_enter_defers Tryz.func35, Tryz.ntmps35
 go_wp2_with (first | (go_at_call 56; refine (HF.out _ HA.out.mac).mono ?_; rintro e w4 ⟨rfl, hb4⟩; have H4 := Lib.hid ((HA.out.kept hb4).kept (W' := w4.alloc (.cells #[.int .i64 op, .int .i64 rd, .int .i64 rn, .int .i64 rm, .int .i64 ra, .int .i64 imm, .int .i64 cond, .bool wide] 123)) ((Below.refl _ _).alloc (Nat.le_refl _) _)); have HB4 := Lib.hid ((HB.out.trans (hb4.mono HB.out.size)).alloc (HB.out.trans (hb4.mono HB.out.size)).size (.cells #[.int .i64 op, .int .i64 rd, .int .i64 rn, .int .i64 rm, .int .i64 ra, .int .i64 imm, .int .i64 cond, .bool wide] 123)); have HI4 := Lib.hid (Blk.new' w4 123 #[.int .i64 op, .int .i64 rd, .int .i64 rn, .int .i64 rm, .int .i64 ra, .int .i64 imm, .int .i64 cond, .bool wide] w4.heap.size rfl rfl : Blk _ _ _ 8 _); clear hb4 HA HB cm3; have cm4 := H4.out.cm; have cp4 := H4.out.cp) | ((with_reducible refine wpList_load_blk insT HI4.out ?_ ?_); exact rfl) | (go_at_call 58; refine (HG.out _ H4.out.mac).mono ?_; rintro e w6 ⟨rfl, hM6, hR6⟩; have H6 := Lib.hid (H4.out.moved hR6 hM6); have HR6 := Lib.hid hR6; clear hM6 hR6 H4 HI4 cm4 cp4) | ((with_reducible refine wpList_store_blk evT H6.out.ev (fits4 k' p' a' c') ?_ ?_); exact rfl))
 have hE := H6.out.evRow (ds := #[.int .i64 k', .int .i64 p', .int .i64 a', .int .i64 c']) rfl
 have hR : Rest (fun k => Mc.mine b l k ∨ k = w.heap.size + 1) _ (w6.setRow (w.heap.size + 1) #[.int .i64 k', .int .i64 p', .int .i64 a', .int .i64 c']) := (HR6.out.mono fun k h => .inl h).trans (Rest.setRow (.inr rfl) _)
 generalize World.setRow _ _ _ = U at *
 refine leaves_cons (f := 55) (args := #[.pointer (some ⟨w.heap.size, 0, none⟩), .pointer (some ⟨w.heap.size + 1 + 1, 0, none⟩), .pointer (some ⟨w.heap.size + 1, 0, none⟩)]) (by simp) (by simp [go_sem]) ?_
 refine (catch_idle _ _ _ b l s hd _ pc _ _ (Lib.hid hE)).mono ?_
 rintro e u' w5 ⟨rfl, rfl, hb5⟩
 have h5 := hE.kept hb5
 have e0 : w5.cell? ⟨w.heap.size + 1, 0, none⟩ = some (.int .i64 k') := h5.ev.cell 0
 have e1 : w5.cell? ⟨w.heap.size + 1, 1, none⟩ = some (.int .i64 p') := h5.ev.cell 1
 have e2 : w5.cell? ⟨w.heap.size + 1, 2, none⟩ = some (.int .i64 a') := h5.ev.cell 2
 have e3 : w5.cell? ⟨w.heap.size + 1, 3, none⟩ = some (.int .i64 c') := h5.ev.cell 3
 simp [Leaves, settle, results, Tryz.results35, go_sem, e0, e1, e2, e3]
 exact ⟨h5.mac, (rest_new HB4.out hR (by omega)).trans (Rest.of hb5)⟩
theorem att_gave (b : Nat) (l : My.Loc) (s : My.St) (hd : Int) (m : Mc.M) (pc L ad : Int) (op rd rn rm ra imm cond : Int) (wide : Bool) (w : World) (hm : Hid (MacAt w b l s hd m)) (hpc : m.st.pc = pc)
  (HF : Hid (∀ W, MacAt W b l s hd m → Calls Tryz.prog 56 #[.pointer (some ⟨b, 0, none⟩)] W fun e w' => e = .returned (.tuple #[.agg #[.int .i64 op, .int .i64 rd, .int .i64 rn, .int .i64 rm, .int .i64 ra, .int .i64 imm, .int .i64 cond, .bool wide], .int .i64 L]) ∧ Below W.heap.size W w'))
  (HG : Hid (∀ W, MacAt W b l s hd m → Calls Tryz.prog 58 #[.pointer (some ⟨b, 0, none⟩), .agg #[.int .i64 op, .int .i64 rd, .int .i64 rn, .int .i64 rm, .int .i64 ra, .int .i64 imm, .int .i64 cond, .bool wide]] W fun e w' => e = gaveUp ad ∧ MacAt w' b l s hd m ∧ Rest (Mc.mine b l) W w')) :
  Calls Tryz.prog 35 #[.pointer (some ⟨b, 0, none⟩), .bool false] w fun e w' => e = .returned (.agg #[.int .i64 2, .int .i64 pc, .int .i64 ad, .int .i64 12]) ∧ MacAt w' b l s hd { m with st := { m.st with pc := hd } } ∧ Rest (Mc.mine b l) w w' := by
 have hmf : ∀ (fn : Fn) (first cap : Array Value) (w : World), (Instr.makeFunc fn first cap).run Tryz.prog w = .ok (.func fn first cap) w := fun _ _ _ _ => rfl
 obtain ⟨W2, hW⟩ : ∃ W2, (w.alloc (.cells #[.pointer (some ⟨b, 0, none⟩)] 45)).alloc (.cells #[.int .i64 0, .int .i64 0, .int .i64 0, .int .i64 0] 49) = W2 := ⟨_, rfl⟩
 obtain ⟨hA, hB, hz, hm2, cm⟩ := at_start (pc := pc) hm.out hW
 have c18 := hm2.pc
 rw [hpc] at c18
 have HA := Lib.hid hA
 have HB := Lib.hid hB
 have cm3 := hA.cm
 clear hA hB hm2
 go_enter_defers Tryz.func35, Tryz.ntmps35
 go_wp2_with (first | (go_at_call 56; refine (HF.out _ HA.out.mac).mono ?_; rintro e w4 ⟨rfl, hb4⟩; have H4 := Lib.hid ((HA.out.kept hb4).kept (W' := w4.alloc (.cells #[.int .i64 op, .int .i64 rd, .int .i64 rn, .int .i64 rm, .int .i64 ra, .int .i64 imm, .int .i64 cond, .bool wide] 123)) ((Below.refl _ _).alloc (Nat.le_refl _) _)); have HB4 := Lib.hid ((HB.out.trans (hb4.mono HB.out.size)).alloc (HB.out.trans (hb4.mono HB.out.size)).size (.cells #[.int .i64 op, .int .i64 rd, .int .i64 rn, .int .i64 rm, .int .i64 ra, .int .i64 imm, .int .i64 cond, .bool wide] 123)); have HI4 := Lib.hid (Blk.new' w4 123 #[.int .i64 op, .int .i64 rd, .int .i64 rn, .int .i64 rm, .int .i64 ra, .int .i64 imm, .int .i64 cond, .bool wide] w4.heap.size rfl rfl : Blk _ _ _ 8 _); clear hb4 HA HB cm3; have cm4 := H4.out.cm; have cp4 := H4.out.cp) | ((with_reducible refine wpList_load_blk insT HI4.out ?_ ?_); exact rfl) | (go_at_call 58; refine (HG.out _ H4.out.mac).mono ?_; rintro e w6 ⟨rfl, hM6, hR6⟩; have H6 := Lib.hid (H4.out.moved hR6 hM6); have HR6 := Lib.hid hR6; clear hM6 hR6 H4 HI4 cm4 cp4))
 refine leaves_cons (f := 55) (args := #[.pointer (some ⟨w.heap.size, 0, none⟩), .pointer (some ⟨w.heap.size + 1 + 1, 0, none⟩), .pointer (some ⟨w.heap.size + 1, 0, none⟩)]) (by simp) (by simp [go_sem]) ?_
 refine (catch_p _ _ _ b l s hd m pc ad _ _ H6).mono ?_
 rintro e u' w5 ⟨rfl, rfl, h5, hr5⟩
 have e0 : w5.cell? ⟨w.heap.size + 1, 0, none⟩ = some (.int .i64 2) := h5.ev.cell 0
 have e1 : w5.cell? ⟨w.heap.size + 1, 1, none⟩ = some (.int .i64 pc) := h5.ev.cell 1
 have e2 : w5.cell? ⟨w.heap.size + 1, 2, none⟩ = some (.int .i64 ad) := h5.ev.cell 2
 have e3 : w5.cell? ⟨w.heap.size + 1, 3, none⟩ = some (.int .i64 12) := h5.ev.cell 3
 simp [Leaves, settle, results, Tryz.results35, go_sem, e0, e1, e2, e3]
 exact ⟨h5.mac, rest_new HB4.out ((HR6.out.mono fun k h => .inl h).trans hr5) (by omega)⟩
end Go.Proofs.YthciobjklhkkcaaGreat
