/-
 Package machine: what do returns.
-/
import Derived.Test.YthciobjklhkkcaaGreatMachG
namespace Go.Proofs.YthciobjklhkkcaaGreat
open Go.ChangeShapes Go.WideShapes Go.ChangeAt Go.RowKit
set_option maxHeartbeats 8000000
set_option maxRecDepth 10000
set_option linter.unusedVariables false
set_option linter.unusedSimpArgs false

/-- a block that is none of a machine's -/
def Mc.off (b : Nat) (l : My.Loc) (k : Nat) : Prop := ¬ Mc.mine b l k ∧ k ≠ l.p ∧ k ≠ l.ra.block ∧ k ≠ l.ba
theorem MacAt.otherRow {W : World} {b : Nat} {l : My.Loc} {s : My.St} {hd : Int} {m : Mc.M} (h : MacAt W b l s hd m) (g : Nat) (cs : Array Value) (hg : Mc.off b l g) : MacAt (W.setRow g cs) b l s hd m :=
 ⟨by rw [setRow_other _ _ _ _ (fun e => hg.1 (.inl e.symm))]; exact h.blk, h.mem.other (b := g) ⟨hg.2.1, hg.2.2.1, hg.2.2.2, fun e => hg.1 (.inr e)⟩ (fun k hk => setRow_other _ _ _ _ hk), h.good, h.np⟩
/-- an instruction, an event, a state as it was, in blocks that are new; a machine -/
structure Do3 (w : World) (n c : Nat) (W : World) (b : Nat) (l : My.Loc) (s : My.St) (hd : Int) (m0 m : Mc.M) (op rd rn rm ra imm cond : Int) (wide : Bool) (ec : Array Value) : Prop where
 ins : Blk W n 123 8 #[.int .i64 op, .int .i64 rd, .int .i64 rn, .int .i64 rm, .int .i64 ra, .int .i64 imm, .int .i64 cond, .bool wide]
 ev : Blk W (n + 1) 49 4 ec
 st : Blk W c 56 20 (Cs.cells m0.st)
 mac : MacAt W b l s hd m
 rest : Rest (Mc.mine b l) w W
 new : Mc.off b l n ∧ Mc.off b l (n + 1) ∧ Mc.off b l c
 le : w.heap.size ≤ n
section
variable {w W W' : World} {n c b : Nat} {l : My.Loc} {s : My.St} {hd : Int} {m0 m m' : Mc.M} {op rd rn rm ra imm cond : Int} {wide : Bool} {ec ds : Array Value}
theorem Do3.kept (h : Do3 w n c W b l s hd m0 m op rd rn rm ra imm cond wide ec) (hb : Below W.heap.size W W') : Do3 w n c W' b l s hd m0 m op rd rn rm ra imm cond wide ec :=
 ⟨h.ins.kept hb, h.ev.kept hb, h.st.kept hb, h.mac.kept hb, h.rest.trans (Rest.of hb), h.new, h.le⟩
theorem Do3.moved (h : Do3 w n c W b l s hd m0 m op rd rn rm ra imm cond wide ec) (hr : Rest (Mc.mine b l) W W') (hm : MacAt W' b l s hd m') : Do3 w n c W' b l s hd m0 m' op rd rn rm ra imm cond wide ec :=
 ⟨h.ins.rest hr h.new.1.1, h.ev.rest hr h.new.2.1.1, h.st.rest hr h.new.2.2.1, hm, h.rest.trans hr, h.new, h.le⟩
theorem Do3.evRow (h : Do3 w n c W b l s hd m0 m op rd rn rm ra imm cond wide ec) (hc : c ≠ n + 1) (hd' : ds.size = 4) : Do3 w n c (W.setRow (n + 1) ds) b l s hd m0 m op rd rn rm ra imm cond wide ds :=
 ⟨h.ins.otherRow _ _ (by omega), h.ev.row hd', h.st.otherRow _ _ hc, h.mac.otherRow _ _ h.new.2.1, ⟨h.rest.os, h.rest.tape, h.rest.output, by have := h.rest.size; simpa using this, fun k hk hx => (setRow_other W (n + 1) k ds (by have := h.le; omega)).trans (h.rest.block k hk hx)⟩, h.new, h.le⟩
end
theorem do_gen (b : Nat) (l : My.Loc) (s : My.St) (hd : Int) (m : Mc.M) (op rd rn rm ra imm cond : Int) (wide : Bool) (AD LD ER CY : Int) (MM : Int → UInt8) (S' : Cs.St) (Bo : Bool) (w : World) (hm : Hid (MacAt w b l s hd m))
  (CA : Hid (∀ W : World, MacAt W b l s hd m → Calls Tryz.prog 85 #[.pointer (some ⟨b, 0, none⟩), .agg #[.int .i64 op, .int .i64 rd, .int .i64 rn, .int .i64 rm, .int .i64 ra, .int .i64 imm, .int .i64 cond, .bool wide]] W fun e w' => (if ER = 0 then e = .returned (.tuple #[.int .i64 AD, .int .i64 LD]) else e = gaveUp AD) ∧ MacAt w' b l s hd { m with mem := MM } ∧ Rest l.own W w'))
  (CS : Hid (∀ W : World, Calls Tryz.prog 86 #[.agg (Cs.cells m.st), .agg #[.int .i64 op, .int .i64 rd, .int .i64 rn, .int .i64 rm, .int .i64 ra, .int .i64 imm, .int .i64 cond, .bool wide], .int .i64 LD] W fun e w' => e = .returned (.tuple #[.agg (Cs.cells S'), .bool Bo]) ∧ Below W.heap.size W w'))
  (CC : Hid (∀ W : World, Calls Tryz.prog 87 #[.agg (Cs.cells m.st), .agg #[.int .i64 op, .int .i64 rd, .int .i64 rn, .int .i64 rm, .int .i64 ra, .int .i64 imm, .int .i64 cond, .bool wide]] W fun e w' => e = .returned (.int .i64 CY) ∧ Below W.heap.size W w')) :
  Calls Tryz.prog 58 #[.pointer (some ⟨b, 0, none⟩), .agg #[.int .i64 op, .int .i64 rd, .int .i64 rn, .int .i64 rm, .int .i64 ra, .int .i64 imm, .int .i64 cond, .bool wide]] w fun e w' => if ER = 0 then (e = .returned (.agg #[.int .i64 0, .int .i64 m.st.pc, .int .i64 AD, .int .i64 CY]) ∧ MacAt w' b l s hd ⟨S', MM, !Bo⟩ ∧ Rest (Mc.mine b l) w w') else (e = gaveUp AD ∧ MacAt w' b l s hd { m with mem := MM } ∧ Rest (Mc.mine b l) w w') := by
 have hnot : ∀ (x : Bool) (w : World), (Op.unary .not (.bool x)).run Tryz.prog w = .ok (.bool (!x)) w := fun _ _ => rfl
 obtain ⟨W1, hW1⟩ : ∃ W1, (w.alloc (.cells #[.int .i64 op, .int .i64 rd, .int .i64 rn, .int .i64 rm, .int .i64 ra, .int .i64 imm, .int .i64 cond, .bool wide] 123)).alloc (.cells #[.int .i64 0, .int .i64 0, .int .i64 0, .int .i64 0] 49) = W1 := ⟨_, rfl⟩
 have hz1 : W1.heap.size = w.heap.size + 1 + 1 := by rw [← hW1]; simp
 have D1 : Hid (Do3 w w.heap.size (w.heap.size + 1 + 1) ((W1.alloc (.cells Cs.zero 56)).setRow (w.heap.size + 1 + 1) (Cs.cells m.st)) b l s hd m m op rd rn rm ra imm cond wide #[.int .i64 0, .int .i64 0, .int .i64 0, .int .i64 0]) := Lib.hid (by
  have hM1 := (hm.out.alloc (.cells #[.int .i64 op, .int .i64 rd, .int .i64 rn, .int .i64 rm, .int .i64 ra, .int .i64 imm, .int .i64 cond, .bool wide] 123)).alloc (.cells #[.int .i64 0, .int .i64 0, .int .i64 0, .int .i64 0] 49)
  have hI := (Blk.new' w 123 #[.int .i64 op, .int .i64 rd, .int .i64 rn, .int .i64 rm, .int .i64 ra, .int .i64 imm, .int .i64 cond, .bool wide] w.heap.size rfl rfl : Blk _ _ _ 8 _).alloc (.cells #[.int .i64 0, .int .i64 0, .int .i64 0, .int .i64 0] 49)
  have hE := (Blk.new' (w.alloc (.cells #[.int .i64 op, .int .i64 rd, .int .i64 rn, .int .i64 rm, .int .i64 ra, .int .i64 imm, .int .i64 cond, .bool wide] 123)) 49 #[.int .i64 0, .int .i64 0, .int .i64 0, .int .i64 0] (w.heap.size + 1) (by simp) rfl : Blk _ _ _ 4 _)
  have hb : Below w.heap.size w ((w.alloc (.cells #[.int .i64 op, .int .i64 rd, .int .i64 rn, .int .i64 rm, .int .i64 ra, .int .i64 imm, .int .i64 cond, .bool wide] 123)).alloc (.cells #[.int .i64 0, .int .i64 0, .int .i64 0, .int .i64 0] 49)) := ((Below.refl _ _).alloc (Nat.le_refl _) _).alloc (by simp) _
  rw [hW1] at hM1 hI hE hb
  have hS : Below W1.heap.size W1 ((W1.alloc (.cells Cs.zero 56)).setRow (w.heap.size + 1 + 1) (Cs.cells m.st)) := below_setRow ((Below.refl _ _).alloc (Nat.le_refl _) _) (by omega) _
  exact ⟨hI.kept hS, hE.kept hS, (Blk.new' W1 56 Cs.zero (w.heap.size + 1 + 1) hz1.symm rfl : Blk _ _ _ 20 _).row rfl, hM1.kept hS, Rest.of (hb.trans (hS.mono hb.size)), ⟨hm.out.newer (Nat.le_refl _), hm.out.newer (by omega), hm.out.newer (by omega)⟩, Nat.le_refl _⟩)
 have HM1 : Hid (MacAt W1 b l s hd m) := Lib.hid (by rw [← hW1]; exact (hm.out.alloc _).alloc _)
 have HZ := Lib.hid (Blk.new' W1 56 Cs.zero (w.heap.size + 1 + 1) hz1.symm rfl : Blk _ _ _ 20 _)
 clear hm
 go_enter Tryz.func58, Tryz.ntmps58
 by_cases hE : ER = 0
 rotate_left
 ·simp only [hE, if_false] at CA ⊢
  go_wp2_with (first | ((with_reducible refine wpList_load_mac HM1.out ?_ ?_); exact rfl) | ((with_reducible refine wpList_store_blk stT HZ.out (fitsS m.st) ?_ ?_); exact rfl; clear hW1; generalize World.setRow _ _ _ = U at *) | ((with_reducible refine wpList_load_blk insT D1.out.ins ?_ ?_); exact rfl) | (go_at_call 85; refine (CA.out _ D1.out.mac).mono ?_; rintro e w2 ⟨rfl, hM2, hR2⟩; have D2 := Lib.hid (D1.out.moved (hR2.mono fun k h => .inr h) hM2); clear hM2 hR2))
  exact ⟨rfl, rfl, D2.out.mac, D2.out.rest⟩
 ·simp only [hE, if_true] at CA ⊢
  go_wp2_with (first | ((with_reducible refine wpList_load_mac HM1.out ?_ ?_); exact rfl) | ((with_reducible refine wpList_store_blk stT HZ.out (fitsS m.st) ?_ ?_); exact rfl; clear hW1; generalize World.setRow _ _ _ = U at *; clear HZ HM1) | ((with_reducible refine wpList_load_blk insT D1.out.ins ?_ ?_); exact rfl) | (go_at_call 85; refine (CA.out _ D1.out.mac).mono ?_; rintro e w2 ⟨rfl, hM2, hR2⟩; have D2 := Lib.hid (D1.out.moved (hR2.mono fun k h => .inr h) hM2); clear hM2 hR2 D1) | ((with_reducible refine wpList_load_blk stT D2.out.st ?_ ?_); exact rfl) | ((with_reducible refine wpList_load_blk insT D2.out.ins ?_ ?_); exact rfl) | (go_at_call 86; refine (CS.out _).mono ?_; rintro e w3 ⟨rfl, hb3⟩; have D3 := Lib.hid (D2.out.kept hb3); clear hb3 D2; have HZ3 := Lib.hid (Blk.new' w3 56 Cs.zero w3.heap.size rfl rfl : Blk _ _ _ 20 _)) | ((with_reducible refine wpList_store_blk stT HZ3.out (fitsS S') ?_ ?_); exact rfl; have HS4 := Lib.hid (HZ3.out.row (ds := Cs.cells S') rfl); have D4 := Lib.hid (D3.out.kept (below_setRow ((Below.refl w3.heap.size w3).alloc (Nat.le_refl _) (.cells Cs.zero 56)) (Nat.le_refl _) (Cs.cells S'))); have hn4 := Lib.hid (D3.out.mac.newer (Nat.le_refl _)).1; generalize World.setRow _ _ _ = U4 at *; clear HZ3 D3) | ((with_reducible refine wpList_load_blk stT HS4.out ?_ ?_); exact rfl) | ((with_reducible refine wpList_store_mac D4.out.mac S' ?_ ?_); exact rfl; intro U5 hM5 hR5; have D5 := Lib.hid (D4.out.moved hR5 hM5); have fz := hM5.open 23; have c23 := hM5.done; clear hM5 hR5 D4 HS4))
  have D6 := Lib.hid (D5.out.moved (rest_setCell U5 ⟨b, 23, none⟩ (.bool (!Bo)) (.inl rfl)) (D5.out.mac.setDone (!Bo)))
  generalize World.setCell _ _ _ = V at *
  clear fz c23 D5 hn4 CA CS hz1 hnot
  obtain ⟨n, hn⟩ : ∃ n, w.heap.size = n := ⟨_, rfl⟩
  rw [hn] at D6 ⊢
  refine wp_region_held_drew (S := fun wx => ∃ ec, Do3 w n (n + 1 + 1) wx b l s hd m ⟨S', MM, !Bo⟩ op rd rn rm ra imm cond wide ec) (by kernel_rfl) (⟨_, D6.out.kept (Below.refl _ _).drew⟩) (fun hHeld => ?_)
  refine wpAnyH_take (i := 0) (v := ?_) rfl (by kernel_rfl) (by kernel_rfl) (by kernel_rfl) (fun _ _ _ h => h) (Or.inl ⟨by rfl, ?_⟩) (by assumption) ?_
  rotate_left
  ·intro w hSw
   (try dsimp only at hSw)
   go_simp
   (try with_reducible rfl)
  (try simp only [Act.put, List.setIfInBounds_toArray, List.set_cons_zero, List.set_cons_succ, List.getElem_toArray, List.getElem_cons_succ, List.getElem_cons_zero])
  refine wpAnyH_take (i := 1) (v := ?_) rfl (by kernel_rfl) (by kernel_rfl) (by kernel_rfl) (fun _ _ _ h => h) (Or.inl ⟨by rfl, ?_⟩) (by assumption) ?_
  rotate_left
  ·intro wx hSw
   (try dsimp only at hSw)
   have hc : wx.cell? ⟨n + 1 + 1, 15, none⟩ = some (.int .i64 m.st.pc) := by obtain ⟨_, hD⟩ := hSw; exact hD.st.cell 15
   go_simp
   (try with_reducible rfl)
  (try simp only [Act.put, List.setIfInBounds_toArray, List.set_cons_zero, List.set_cons_succ, List.getElem_toArray, List.getElem_cons_succ, List.getElem_cons_zero])
  refine wpAnyH_take (i := 2) (v := ?_) rfl (by kernel_rfl) (by kernel_rfl) (by kernel_rfl) (fun _ _ _ h => h) (Or.inl ⟨by rfl, ?_⟩) (by assumption) ?_
  rotate_left
  ·intro w hSw
   (try dsimp only at hSw)
   go_simp
   (try with_reducible rfl)
  (try simp only [Act.put, List.setIfInBounds_toArray, List.set_cons_zero, List.set_cons_succ, List.getElem_toArray, List.getElem_cons_succ, List.getElem_cons_zero])
  refine wpAnyH_take (i := 3) (v := _) rfl (by kernel_rfl) (by kernel_rfl) (by kernel_rfl) (fun _ _ _ h => h) (yieldsIf_load_blk stT (by rfl) rfl (fun _ h => by obtain ⟨_, hD⟩ := h; exact hD.st)) (by assumption) ?_
  (try simp only [Act.put, List.setIfInBounds_toArray, List.set_cons_zero, List.set_cons_succ, List.getElem_toArray, List.getElem_cons_succ, List.getElem_cons_zero])
  refine wpAnyH_take (i := 4) (v := _) rfl (by kernel_rfl) (by kernel_rfl) (by kernel_rfl) (fun _ _ _ h => h) (yieldsIf_load_blk insT (by rfl) rfl (fun _ h => by obtain ⟨_, hD⟩ := h; exact hD.ins)) (by assumption) ?_
  (try simp only [Act.put, List.setIfInBounds_toArray, List.set_cons_zero, List.set_cons_succ, List.getElem_toArray, List.getElem_cons_succ, List.getElem_cons_zero])
  refine wpAnyH_ready (rs := [5]) (by kernel_rfl) (by simp) ?_
  refine AllReadyH.cons rfl (fun K hK => ?_) AllReadyH.nil
  go_simp
  go_at_call 87; refine (CC.out _).mono ?_; rintro e w6 ⟨rfl, hb6⟩
  have D7 := (D6.out.kept (Below.refl _ _).drew).kept hb6
  refine hK.out _ _ ⟨_, D7⟩ (fun _ => ?_)
  clear hK K
  (try simp only [Act.put, List.setIfInBounds_toArray, List.set_cons_zero, List.set_cons_succ, List.getElem_toArray, List.getElem_cons_succ, List.getElem_cons_zero])
  refine wpAnyH_take (i := 6) (v := ?_) rfl (by kernel_rfl) (by kernel_rfl) (by kernel_rfl) (fun _ _ _ h => h) (Or.inl ⟨by rfl, ?_⟩) (by assumption) ?_
  rotate_left
  ·intro w hSw
   (try dsimp only at hSw)
   go_simp
   (try with_reducible rfl)
  (try simp only [Act.put, List.setIfInBounds_toArray, List.set_cons_zero, List.set_cons_succ, List.getElem_toArray, List.getElem_cons_succ, List.getElem_cons_zero])
  refine wpAnyH_ready (rs := [7]) (by kernel_rfl) (by simp) ?_
  refine AllReadyH.cons rfl (fun K hK => ?_) AllReadyH.nil
  refine wp_store_blk evT D7.ev (fits4 0 m.st.pc AD CY) ⟨rfl, rfl⟩ ?_
  have D8 := D7.evRow (ds := #[.int .i64 0, .int .i64 m.st.pc, .int .i64 AD, .int .i64 CY]) (by omega) rfl
  refine hK.out _ _ ⟨_, D8⟩ (fun _ => ?_)
  clear hK K
  (try simp only [Act.put, List.setIfInBounds_toArray, List.set_cons_zero, List.set_cons_succ, List.getElem_toArray, List.getElem_cons_succ, List.getElem_cons_zero])
  refine wpAnyH_done (by kernel_rfl) ?_ _
  go_wp2_with fail
  refine bp_blk evT rfl rfl D8.ev rfl ⟨rfl, D8.mac, D8.rest⟩
end Go.Proofs.YthciobjklhkkcaaGreat
