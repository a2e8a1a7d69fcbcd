/-
What made of package cpu returns, operation by operation, part 4.
Package image: what front, at and read return, and the document's words and at.
What made of package cpu returns, operation by operation, part 3.
-/
import Derived.Test.YthciobjklhkkcaaGreatP05b
import Derived.Test.YthciobjklhkkcaaGreatP05a
section
namespace Go.Proofs.YthciobjklhkkcaaGreat
open Go.ChangeShapes Go.WideShapes Go.ChangeAt Go.RowKit
set_option linter.unusedVariables false
set_option linter.unusedSimpArgs false
set_option maxHeartbeats 2000000
set_option maxRecDepth 10000

theorem pow_ones (k : Nat) (hk : k ≤ 32) : wrap64 (wrap64 (2 ^ k) - 1) = 2 ^ k - 1 := by
 have h2 : (2 : Nat) ^ k ≤ 2 ^ 32 := Nat.pow_le_pow_right (by decide) hk
 have h3 : 1 ≤ (2 : Nat) ^ k := Nat.two_pow_pos k
 rw [Wd.pow_cast]
 generalize (2 : Nat) ^ k = q at *
 rw [Wd.wrap64_in (q : Int) (by omega) (by omega), Wd.wrap64_in _ (by omega) (by omega)]
theorem made_23 (s : Cs.St) (rd rn rm : Nat) (ra imm cond l : Int) (wide : Bool) (w : World) (hd : rd < 13) (hn : rn < 13) (hm : rm < 13) (hw : ∀ j, 0 ≤ s.r j ∧ s.r j < 4294967296) :
  Calls Tryz.prog 117 #[.agg (Cs.cells s), .agg #[.int .i64 23, .int .i64 (rd : Int), .int .i64 (rn : Int), .int .i64 (rm : Int), .int .i64 ra, .int .i64 imm, .int .i64 cond, .bool wide], .int .i64 l] w fun e w' => e = .returned (.agg (Cs.cells (Cs.made s ⟨23, rd, rn, rm, ra, imm, cond, wide⟩ l))) ∧ Below w.heap.size w w' := by
 obtain ⟨gd, bd, bd0⟩ := Cs.idx s rd hd
 obtain ⟨gn, bn, bn0⟩ := Cs.idx s rn hn
 obtain ⟨gm, bm, bm0⟩ := Cs.idx s rm hm
 go_enter Tryz.func117, Tryz.ntmps117
 go_wp2_with fail
 go_quiet (fail)
 have H := Lib.hid (Cpu3.newN w nq s 23 rd rn rm ra imm cond wide)
 generalize World.drewN _ nq = W at *
 clear gd gn gm
 obtain ⟨i0, i1, i2, i3, i4, i5, i6, i7⟩ := H.out.ins
 have c1 := H.out.st.reg rd (by omega)
 have fz := H.out.st.open
 go_wp2_with (first | ((with_reducible refine wpList_load_st H.out.st ?_ ?_); exact rfl) | (go_at_call 156; refine (compared_any s _ _ _ (hw rn).1 (hw rn).2 (hw rm).1 (hw rm).2).mono ?_; rintro e w3 ⟨rfl, hb⟩; replace H := Lib.hid (H.out.kept hb); clear hb) | ((with_reducible apply wpList_store_st H.out.res); exact rfl))
 try simp only [Exit.inBlock, Exit.then]
 refine bp_state rfl rfl ((H.out).res.setRow _) rfl ⟨rfl, (H.out).end _⟩

theorem made_17 (s : Cs.St) (rd rn rm ra : Nat) (imm cond l : Int) (wide : Bool) (w : World) (hd : rd < 13) (hn : rn < 13) (hm : rm < 13) (hw : ∀ j, 0 ≤ s.r j ∧ s.r j < 4294967296) (ha : ra < 13) :
  Calls Tryz.prog 117 #[.agg (Cs.cells s), .agg #[.int .i64 17, .int .i64 (rd : Int), .int .i64 (rn : Int), .int .i64 (rm : Int), .int .i64 (ra : Int), .int .i64 imm, .int .i64 cond, .bool wide], .int .i64 l] w fun e w' => e = .returned (.agg (Cs.cells (Cs.made s ⟨17, rd, rn, rm, (ra : Int), imm, cond, wide⟩ l))) ∧ Below w.heap.size w w' := by
 obtain ⟨gd, bd, bd0⟩ := Cs.idx s rd hd
 obtain ⟨gn, bn, bn0⟩ := Cs.idx s rn hn
 obtain ⟨gm, bm, bm0⟩ := Cs.idx s rm hm
 go_enter Tryz.func117, Tryz.ntmps117
 go_wp2_with fail
 go_quiet (fail)
 have H := Lib.hid (Cpu3.newN w nq s 17 rd rn rm (ra : Int) imm cond wide)
 generalize World.drewN _ nq = W at *
 clear gd gn gm
 obtain ⟨i0, i1, i2, i3, i4, i5, i6, i7⟩ := H.out.ins
 have c1 := H.out.st.reg rd (by omega)
 have fz := H.out.st.open
 obtain ⟨-, ba, ba0⟩ := Cs.idx s ra ha
 go_wp2_with fail
 have c2 : ∀ x, (W.setCell ⟨w.heap.size, rd, none⟩ (.int .i64 x)).cell? ⟨w.heap.size, ra, none⟩ = _ := fun x => (H.out.reg rd hd x).st.reg ra (by omega)
 clear i0 i1 i2 i3 i4 i5 i6 i7
 have G := Lib.hid H.out.drew.ins
 refine wp_region_held_drew (S := fun wx => InsAt wx (w.heap.size + 1) 17 rd rn rm ra imm cond wide) (by kernel_rfl) (G.out) (fun hHeld => ?_)
 refine wpAnyH_take (i := 0) (v := ?_) rfl (by kernel_rfl) (by kernel_rfl) (by kernel_rfl) (fun _ _ _ h => h) (Or.inl ⟨by rfl, ?_⟩) (by assumption) ?_
 rotate_left
 ·intro w hSw
  (try dsimp only at hSw)
  go_simp
  (try with_reducible rfl)
 (try simp only [Act.put, List.setIfInBounds_toArray, List.set_cons_zero, List.set_cons_succ, List.getElem_toArray, List.getElem_cons_succ, List.getElem_cons_zero])
 refine wpAnyH_take (i := 1) (v := ?_) rfl (by kernel_rfl) (by kernel_rfl) (by kernel_rfl) (fun _ _ _ h => h) (Or.inl ⟨by rfl, ?_⟩) (by assumption) ?_
 rotate_left
 ·intro w hSw
  (try dsimp only at hSw)
  go_simp
  (try with_reducible rfl)
 (try simp only [Act.put, List.setIfInBounds_toArray, List.set_cons_zero, List.set_cons_succ, List.getElem_toArray, List.getElem_cons_succ, List.getElem_cons_zero])
 refine wpAnyH_take (i := 2) (v := ?_) rfl (by kernel_rfl) (by kernel_rfl) (by kernel_rfl) (fun _ _ _ h => h) (Or.inl ⟨by rfl, ?_⟩) (by assumption) ?_
 rotate_left
 ·intro w hSw
  (try dsimp only at hSw)
  go_simp
  (try with_reducible rfl)
 (try simp only [Act.put, List.setIfInBounds_toArray, List.set_cons_zero, List.set_cons_succ, List.getElem_toArray, List.getElem_cons_succ, List.getElem_cons_zero])
 refine wpAnyH_take (i := 3) (v := ?_) rfl (by kernel_rfl) (by kernel_rfl) (by kernel_rfl) (fun _ _ _ h => h) (Or.inl ⟨by rfl, ?_⟩) (by assumption) ?_
 rotate_left
 ·intro w hSw
  (try dsimp only at hSw)
  go_simp
  (try with_reducible rfl)
 (try simp only [Act.put, List.setIfInBounds_toArray, List.set_cons_zero, List.set_cons_succ, List.getElem_toArray, List.getElem_cons_succ, List.getElem_cons_zero])
 refine wpAnyH_take (i := 4) (v := ?_) rfl (by kernel_rfl) (by kernel_rfl) (by kernel_rfl) (fun _ _ _ h => h) (Or.inl ⟨by rfl, ?_⟩) (by assumption) ?_
 rotate_left
 ·intro w hSw
  (try dsimp only at hSw)
  go_simp
  (try with_reducible rfl)
 (try simp only [Act.put, List.setIfInBounds_toArray, List.set_cons_zero, List.set_cons_succ, List.getElem_toArray, List.getElem_cons_succ, List.getElem_cons_zero])
 refine wpAnyH_take (i := 5) (v := ?_) rfl (by kernel_rfl) (by kernel_rfl) (by kernel_rfl) (fun _ _ _ h => h) (Or.inl ⟨by rfl, ?_⟩) (by assumption) ?_
 rotate_left
 ·intro w hSw
  (try dsimp only at hSw)
  go_simp
  (try with_reducible rfl)
 (try simp only [Act.put, List.setIfInBounds_toArray, List.set_cons_zero, List.set_cons_succ, List.getElem_toArray, List.getElem_cons_succ, List.getElem_cons_zero])
 refine wpAnyH_take (i := 7) (v := ?_) rfl (by kernel_rfl) (by kernel_rfl) (by kernel_rfl) (fun _ _ _ h => h) (Or.inl ⟨by rfl, ?_⟩) (by assumption) ?_
 rotate_left
 ·intro w hSw
  (try dsimp only at hSw)
  go_simp
  (try with_reducible rfl)
 (try simp only [Act.put, List.setIfInBounds_toArray, List.set_cons_zero, List.set_cons_succ, List.getElem_toArray, List.getElem_cons_succ, List.getElem_cons_zero])
 refine wpAnyH_take (i := 8) (v := ?_) rfl (by kernel_rfl) (by kernel_rfl) (by kernel_rfl) (fun _ _ _ h => h) (Or.inl ⟨by rfl, ?_⟩) (by assumption) ?_
 rotate_left
 ·intro w hSw
  (try dsimp only at hSw)
  go_simp
  (try with_reducible rfl)
 (try simp only [Act.put, List.setIfInBounds_toArray, List.set_cons_zero, List.set_cons_succ, List.getElem_toArray, List.getElem_cons_succ, List.getElem_cons_zero])
 refine wpAnyH_take (i := 10) (v := ?_) rfl (by kernel_rfl) (by kernel_rfl) (by kernel_rfl) (fun _ _ _ h => h) (Or.inl ⟨by rfl, ?_⟩) (by assumption) ?_
 rotate_left
 ·intro w hSw
  (try dsimp only at hSw)
  go_simp
  (try with_reducible rfl)
 (try simp only [Act.put, List.setIfInBounds_toArray, List.set_cons_zero, List.set_cons_succ, List.getElem_toArray, List.getElem_cons_succ, List.getElem_cons_zero])
 refine wpAnyH_take (i := 13) (v := ?_) rfl (by kernel_rfl) (by kernel_rfl) (by kernel_rfl) (fun _ _ _ h => h) (Or.inl ⟨by rfl, ?_⟩) (by assumption) ?_
 rotate_left
 ·intro w hSw
  (try dsimp only at hSw)
  go_simp
  (try with_reducible rfl)
 (try simp only [Act.put, List.setIfInBounds_toArray, List.set_cons_zero, List.set_cons_succ, List.getElem_toArray, List.getElem_cons_succ, List.getElem_cons_zero])
 refine wpAnyH_ready (rs := [6]) (by kernel_rfl) (by simp) ?_
 refine AllReadyH.cons rfl (fun K hK => ?_) AllReadyH.nil
 go_simp
 (go_at_call 153; refine (mul_any _ _ _).mono ?_; rintro e w' ⟨rfl, rfl⟩)
 refine hK.out _ _ (by first | exact G.out | exact G.out.set _ _ (by show w.heap.size + 1 ≠ w.heap.size; omega) | exact (G.out.set _ _ (by show w.heap.size + 1 ≠ w.heap.size; omega)).set _ _ (by show w.heap.size + 1 ≠ w.heap.size; omega)) (fun hHeld => ?_)
 clear hK K
 (try simp only [Act.put, List.setIfInBounds_toArray, List.set_cons_zero, List.set_cons_succ, List.getElem_toArray, List.getElem_cons_succ, List.getElem_cons_zero])
 refine wpAnyH_take (i := 11) (v := ?_) rfl (by kernel_rfl) (by kernel_rfl) (by kernel_rfl) (fun _ _ _ h => h) (Or.inl ⟨by rfl, ?_⟩) (by assumption) ?_
 rotate_left
 ·intro w hSw
  (try dsimp only at hSw)
  go_simp
  (try with_reducible rfl)
 (try simp only [Act.put, List.setIfInBounds_toArray, List.set_cons_zero, List.set_cons_succ, List.getElem_toArray, List.getElem_cons_succ, List.getElem_cons_zero])
 refine wpAnyH_ready (rs := [9]) (by kernel_rfl) (by simp) ?_
 refine AllReadyH.cons rfl (fun K hK => ?_) AllReadyH.nil
 go_simp
 (go_at_call 154; refine (high_any _ _ _).mono ?_; rintro e w' ⟨rfl, rfl⟩)
 refine hK.out _ _ (by first | exact G.out | exact G.out.set _ _ (by show w.heap.size + 1 ≠ w.heap.size; omega) | exact (G.out.set _ _ (by show w.heap.size + 1 ≠ w.heap.size; omega)).set _ _ (by show w.heap.size + 1 ≠ w.heap.size; omega)) (fun hHeld => ?_)
 clear hK K
 (try simp only [Act.put, List.setIfInBounds_toArray, List.set_cons_zero, List.set_cons_succ, List.getElem_toArray, List.getElem_cons_succ, List.getElem_cons_zero])
 refine wpAnyH_ready (rs := [12]) (by kernel_rfl) (by simp) ?_
 refine AllReadyH.cons rfl (fun K hK => ?_) AllReadyH.nil
 go_simp
 skip
 refine hK.out _ _ (by first | exact G.out | exact G.out.set _ _ (by show w.heap.size + 1 ≠ w.heap.size; omega) | exact (G.out.set _ _ (by show w.heap.size + 1 ≠ w.heap.size; omega)).set _ _ (by show w.heap.size + 1 ≠ w.heap.size; omega)) (fun hHeld => ?_)
 clear hK K
 (try simp only [Act.put, List.setIfInBounds_toArray, List.set_cons_zero, List.set_cons_succ, List.getElem_toArray, List.getElem_cons_succ, List.getElem_cons_zero])
 refine wpAnyH_take (i := 14) (v := ?_) rfl (by kernel_rfl) (by kernel_rfl) (by kernel_rfl) (fun _ _ _ h => h) (Or.inl ⟨by rfl, ?_⟩) (by assumption) ?_
 rotate_left
 ·intro w hSw
  (try dsimp only at hSw)
  go_simp
  (try with_reducible rfl)
 (try simp only [Act.put, List.setIfInBounds_toArray, List.set_cons_zero, List.set_cons_succ, List.getElem_toArray, List.getElem_cons_succ, List.getElem_cons_zero])
 refine wpAnyH_ready (rs := [15]) (by kernel_rfl) (by simp) ?_
 refine AllReadyH.cons rfl (fun K hK => ?_) AllReadyH.nil
 go_simp
 skip
 refine hK.out _ _ (by first | exact G.out | exact G.out.set _ _ (by show w.heap.size + 1 ≠ w.heap.size; omega) | exact (G.out.set _ _ (by show w.heap.size + 1 ≠ w.heap.size; omega)).set _ _ (by show w.heap.size + 1 ≠ w.heap.size; omega)) (fun hHeld => ?_)
 clear hK K
 (try simp only [Act.put, List.setIfInBounds_toArray, List.set_cons_zero, List.set_cons_succ, List.getElem_toArray, List.getElem_cons_succ, List.getElem_cons_zero])
 refine wpAnyH_done (by kernel_rfl) ?_ _
 go_wp2_with (first | ((with_reducible refine wpList_load_st ((H.out.reg rd hd _).reg ra ha _).drew.st ?_ ?_); exact rfl) | ((with_reducible apply wpList_store_st ((H.out.reg rd hd _).reg ra ha _).drew.res); exact rfl))
 try simp only [Exit.inBlock, Exit.then]
 refine bp_state rfl rfl ((((H.out.reg rd hd _).reg ra ha _).drew).res.setRow _) rfl ⟨rfl, (((H.out.reg rd hd _).reg ra ha _).drew).end _⟩

theorem made_18 (s : Cs.St) (rd rn rm k a : Nat) (cond l : Int) (wide : Bool) (w : World) (hd : rd < 13) (hn : rn < 13) (hm : rm < 13) (hw : ∀ j, 0 ≤ s.r j ∧ s.r j < 4294967296) (hk : 1 ≤ k) (ha : a + k ≤ 32) :
  Calls Tryz.prog 117 #[.agg (Cs.cells s), .agg #[.int .i64 18, .int .i64 (rd : Int), .int .i64 (rn : Int), .int .i64 (rm : Int), .int .i64 (k : Int), .int .i64 (a : Int), .int .i64 cond, .bool wide], .int .i64 l] w fun e w' => e = .returned (.agg (Cs.cells (Cs.made s ⟨18, rd, rn, rm, (k : Int), (a : Int), cond, wide⟩ l))) ∧ Below w.heap.size w w' := by
 obtain ⟨gd, bd, bd0⟩ := Cs.idx s rd hd
 obtain ⟨gn, bn, bn0⟩ := Cs.idx s rn hn
 obtain ⟨gm, bm, bm0⟩ := Cs.idx s rm hm
 go_enter Tryz.func117, Tryz.ntmps117
 go_wp2_with fail
 go_quiet (fail)
 have H := Lib.hid (Cpu3.newN w nq s 18 rd rn rm (k : Int) (a : Int) cond wide)
 generalize World.drewN _ nq = W at *
 clear gd gn gm
 obtain ⟨i0, i1, i2, i3, i4, i5, i6, i7⟩ := H.out.ins
 have c1 := H.out.st.reg rd (by omega)
 have fz := H.out.st.open
 go_wp2_with fail
 go_still_tail 17, (by kernel_rfl)
 still_call (still (shl_any _ _ _))
 repeat still_step
 still_call (still (shl_any _ _ _))
 repeat still_step
 still_call (still (select_any _ _ _ _))
 repeat still_step
 try refine wpStill_nil ?_
 change wpList _ _ _ _ _ W.drew
 replace H := Lib.hid H.out.drew
 clear i0 i1 i2 i3 i4 i5 i6 i7 c1 fz
 generalize W.drew = V at *
 have c1 := H.out.st.reg rd (by omega)
 have fz := H.out.st.open
 go_wp2_with (first | ((with_reducible refine wpList_load_st (H.out.reg rd hd _).st ?_ ?_); exact rfl) | ((with_reducible apply wpList_store_st (H.out.reg rd hd _).res); exact rfl))
 try simp only [Exit.inBlock, Exit.then]
 refine bp_state rfl rfl ((H.out.reg rd hd _).res.setRow _) rfl ⟨by rw [pow_ones k (by omega)]; rfl, (H.out.reg rd hd _).end _⟩

end Go.Proofs.YthciobjklhkkcaaGreat
end
section
namespace Go.Proofs.YthciobjklhkkcaaGreat
open Go.ChangeShapes Go.WideShapes Go.ChangeAt Go.RowKit
set_option maxHeartbeats 16000000
set_option maxRecDepth 100000
set_option linter.unusedVariables false
set_option linter.unusedSimpArgs false

theorem Im.HdAt.keptB {W W' : World} {b B : Nat} {r h i o l m : Int} (hc : Im.HdAt W b r h i o l m) (hb : Below B W W') (hlt : b < B) : Im.HdAt W' b r h i o l m := by
 obtain ⟨h0, h1, h2, h3, h4, h5⟩ := hc
 refine ⟨?_, ?_, ?_, ?_, ?_, ?_⟩ <;> (rw [hb.cell (by exact hlt)]; assumption)
theorem field_lit (r h i o l m : Int) (k : Nat) (F : Int) (w : World) (hk : k < 16) (hb : Hid ((r ≤ 1000000 ∧ 0 ≤ r) ∧ (h ≤ 1000000 ∧ 0 ≤ h))) (hF : Hid (Im.field ⟨r, h, i, o, l, m⟩ k = F)) :
  Calls Tryz.prog 79 #[.agg #[.int .i64 r, .int .i64 h, .int .i64 i, .int .i64 o, .int .i64 l, .int .i64 m], .int .i64 k] w fun e w' => e = .returned (.int .i64 F) ∧ Below w.heap.size w w' := by
 have := field_any r h i o l m k w hk hb.out.1.1 hb.out.1.2 hb.out.2.1 hb.out.2.2
 rw [hF.out] at this
 exact this
theorem front_any (r h i o l m : Int) (w : World) (hb : Hid ((r ≤ 1000000 ∧ 0 ≤ r) ∧ (h ≤ 1000000 ∧ 0 ≤ h))) :
  Calls Tryz.prog 49 #[.agg #[.int .i64 r, .int .i64 h, .int .i64 i, .int .i64 o, .int .i64 l, .int .i64 m]] w fun e w' => e = .returned (.string (Im.F ⟨r, h, i, o, l, m⟩)) ∧ Below w.heap.size w w' := by
 obtain ⟨R, hR⟩ : ∃ R, Im.F ⟨r, h, i, o, l, m⟩ = R := ⟨_, rfl⟩
 rw [hR]
 have HR := Lib.hid hR
 clear hR
 go_enter Tryz.func49, Tryz.ntmps49
 go_wp2
 have HH0 : Hid (Im.HdAt ((w.alloc (.cells #[.int .i64 r, .int .i64 h, .int .i64 i, .int .i64 o, .int .i64 l, .int .i64 m] 84)).alloc (.cells #[.pointer none, .slice none 0 0] 158)) w.heap.size r h i o l m) := Lib.hid ((Im.HdAt.new w r h i o l m 84).kept (by go_grown))
 have HBR : Hid (BRel ((w.alloc (.cells #[.int .i64 r, .int .i64 h, .int .i64 i, .int .i64 o, .int .i64 l, .int .i64 m] 84)).alloc (.cells #[.pointer none, .slice none 0 0] 158)) (w.heap.size + 1) []) := Lib.hid (Or.inl ⟨rfl, by rw [show w.heap.size + 1 = (w.alloc (.cells #[.int .i64 r, .int .i64 h, .int .i64 i, .int .i64 o, .int .i64 l, .int .i64 m] 84)).heap.size by simp, heap_alloc_new]⟩)
 have HB0 : Hid (Below w.heap.size w ((w.alloc (.cells #[.int .i64 r, .int .i64 h, .int .i64 i, .int .i64 o, .int .i64 l, .int .i64 m] 84)).alloc (.cells #[.pointer none, .slice none 0 0] 158))) := Lib.hid (by go_grown)
 go_loopw [5] (fun K wr => ∃ k : Nat, K = .int .i64 (k : Int) ∧ k ≤ 16 ∧ BRel wr (w.heap.size + 1) (Im.fr ⟨r, h, i, o, l, m⟩ k) ∧ Im.HdAt wr w.heap.size r h i o l m ∧ Below w.heap.size w wr) (fun K _ => 16 - (intOf K).toNat)
 case atStart => exact ⟨0, rfl, Nat.zero_le _, HBR.out, HH0.out, HB0.out⟩
 case round =>
  clear HBR HB0 HH0
  obtain ⟨k, rfl, hk, hbr, hh, hB⟩ := hrel
  by_cases hlt : k < 16
  ·have hlt' : (k : Int) < 16 := by omega
   obtain ⟨c0, c1, c2, c3, c4, c5⟩ := hh
   obtain ⟨F, hF⟩ : ∃ F, Im.field ⟨r, h, i, o, l, m⟩ k = F := ⟨_, rfl⟩
   have HF := Lib.hid hF
   have hs := Im.fr_succ ⟨r, h, i, o, l, m⟩ k
   have hl := Im.fr_len ⟨r, h, i, o, l, m⟩ k
   rw [hF] at hs
   obtain ⟨bl, hbl⟩ : ∃ bl, Im.fr ⟨r, h, i, o, l, m⟩ k = bl := ⟨_, rfl⟩
   rw [hbl] at hs hl hbr
   have HS := Lib.hid hs
   have HL := Lib.hid hl
   have HB := Lib.hid hB
   have HBR := Lib.hid hbr
   have HH := Lib.hid (show Im.HdAt wr w.heap.size r h i o l m from ⟨c0, c1, c2, c3, c4, c5⟩)
   clear hF hs hl hbl hB hbr
   go_wp2_with (first
    | (go_at_call 79; refine (field_lit r h i o l m k F _ hlt hb HF).mono ?_; rintro e w1 ⟨rfl, hb1⟩; have HB1 := Lib.hid (below_on HB.out hb1 HB.out.size); have HBR1 := Lib.hid (HBR.out.kept hb1); have HH1 := Lib.hid (HH.out.kept hb1); clear hb1)
    | (go_at_call 78; refine (bytes_any F _).mono ?_; rintro e w2 ⟨rfl, hb2⟩; have HB2 := Lib.hid (below_on HB1.out hb2 HB1.out.size); have HBR2 := Lib.hid (HBR1.out.kept hb2); have HH2 := Lib.hid (HH1.out.kept hb2); clear hb2)
    | (go_at_call 77; refine (HBR2.out.write (Wd.bytes F) (by rw [Im.bytes_size]; decide) (by rw [Im.bytes_size, HL.out]; omega)).mono ?_; rintro e w3 ⟨rfl, hbr3, hb3⟩; have HBR3 := Lib.hid hbr3; have HH3 := Lib.hid (HH2.out.keptB hb3 (Nat.lt_succ_self _)); have HB3 := Lib.hid (HB2.out.trans (hb3.mono (Nat.le_succ _))); clear hbr3 hb3))
   exact ⟨⟨k + 1, by simp, by omega, by rw [HS.out]; exact HBR3.out, HH3.out, HB3.out⟩, by simp [intOf]; omega⟩
  ·obtain rfl : k = 16 := by omega
   have HBR := Lib.hid hbr
   have HB := Lib.hid hB
   clear hbr hB hh
   go_wp2_with (go_at_call 80; refine (HBR.out.string).mono ?_; rintro e w1 ⟨rfl, hb1⟩; have HB1 := Lib.hid (HB.out.trans (hb1.mono (Nat.le_succ _))); clear hb1)
   go_ret
   exact ⟨by rw [← HR.out]; rfl, HB1.out⟩
theorem rbytes_lit (a : Int) (w : World) : Calls Tryz.prog 60 #[.int .i64 a] w fun e w' => e = .returned (.string (Wd.bytes a)) ∧ Below w.heap.size w w' := rbytes_any a w
theorem iwords_any (r h i o l m : Int) (w : World) (hb : (r ≤ 1000000 ∧ 0 ≤ r) ∧ (h ≤ 1000000 ∧ 0 ≤ h)) :
  Calls Tryz.prog 39 #[.agg #[.int .i64 r, .int .i64 h, .int .i64 i, .int .i64 o, .int .i64 l, .int .i64 m]] w fun e w' => e = .returned (.string (Im.F ⟨r, h, i, o, l, m⟩)) ∧ Below w.heap.size w w' := by
 obtain ⟨⟨hr, hr0⟩, hh, hh0⟩ := hb
 obtain ⟨R, hR⟩ : ∃ R, Im.F ⟨r, h, i, o, l, m⟩ = R := ⟨_, rfl⟩
 rw [hR]
 have HR := Lib.hid hR
 clear hR
 go_enter Tryz.func39, Tryz.ntmps39
 go_wp2
 have HH0 : Hid (Im.HdAt (w.alloc (.cells #[.int .i64 r, .int .i64 h, .int .i64 i, .int .i64 o, .int .i64 l, .int .i64 m] 61)) w.heap.size r h i o l m) := Lib.hid (Im.HdAt.new w r h i o l m 61)
 have HB0 : Hid (Below w.heap.size w (w.alloc (.cells #[.int .i64 r, .int .i64 h, .int .i64 i, .int .i64 o, .int .i64 l, .int .i64 m] 61))) := Lib.hid (by go_grown)
 go_loopw [3, 4] (fun S K wr => ∃ k : Nat, K = .int .i64 (k : Int) ∧ k ≤ 16 ∧ S = .string ⟨(Im.fr ⟨r, h, i, o, l, m⟩ k).toArray⟩ ∧ Im.HdAt wr w.heap.size r h i o l m ∧ Below w.heap.size w wr) (fun _ K _ => 16 - (intOf K).toNat)
 case atStart => exact ⟨0, rfl, Nat.zero_le _, rfl, HH0.out, HB0.out⟩
 case round =>
  clear HB0 HH0
  obtain ⟨k, rfl, hk, rfl, hhd, hB⟩ := hrel
  by_cases hlt : k < 16
  ·obtain ⟨c0, c1, c2, c3, c4, c5⟩ := hhd
   have HS : Hid ((⟨(Im.fr ⟨r, h, i, o, l, m⟩ (k + 1)).toArray⟩ : ByteArray) = ⟨(Im.fr ⟨r, h, i, o, l, m⟩ k).toArray⟩ ++ Wd.bytes (Im.field ⟨r, h, i, o, l, m⟩ k)) := Lib.hid (by rw [Im.fr_succ, arr_app, arr_data])
   have hl := Im.fr_len ⟨r, h, i, o, l, m⟩ k
   obtain ⟨bl, hbl⟩ : ∃ bl : ByteArray, (⟨(Im.fr ⟨r, h, i, o, l, m⟩ k).toArray⟩ : ByteArray) = bl := ⟨_, rfl⟩
   have hbz : bl.size = 4 * k := by rw [← hbl, ← hl]; exact List.size_toArray
   rw [hbl] at HS ⊢
   have HB := Lib.hid hB
   have HH := Lib.hid (show Im.HdAt wr w.heap.size r h i o l m from ⟨c0, c1, c2, c3, c4, c5⟩)
   have hsz : ∀ a, ¬ 9223372036854775807 < bl.size + (Wd.bytes a).size := fun a => by rw [Im.bytes_size]; omega
   clear hbl hl hB
   rcases (by omega : k = 0 ∨ k = 1 ∨ k = 2 ∨ k = 3 ∨ k = 4 ∨ k = 5 ∨ k = 6 ∨ k = 7 ∨ k = 8 ∨ k = 9 ∨ k = 10 ∨ k = 11 ∨ k = 12 ∨ k = 13 ∨ k = 14 ∨ k = 15) with rfl | rfl | rfl | rfl | rfl | rfl | rfl | rfl | rfl | rfl | rfl | rfl | rfl | rfl | rfl | rfl
   all_goals
    clear hk hlt hbz
    go_wp2_with (go_at_call 60; refine (rbytes_lit _ _).mono ?_; rintro e w2 ⟨rfl, hb2⟩; have HB2 := Lib.hid (below_on HB.out hb2 HB.out.size); have HH2 := Lib.hid (HH.out.kept hb2); clear hb2)
    exact ⟨⟨_, rfl, by decide, by rw [HS.out]; rfl, HH2.out, HB2.out⟩, by simp [intOf]⟩
  ·obtain rfl : k = 16 := by omega
   have HB := Lib.hid hB
   clear hB hhd
   go_wp2
   go_ret
   exact ⟨by rw [← HR.out]; rfl, HB.out⟩
theorem of_size (t : ByteArray) (w : World) (h : t.size = 4) :
  Calls Tryz.prog 62 #[.string t] w fun e w' => e = .returned (.tuple #[.int .i64 (Im.four t), .bool true]) ∧ w = w' := by
 obtain ⟨b0, b1, b2, b3, rfl⟩ := Wd.four_of t h
 exact of_yes b0 b1 b2 b3 w
theorem Im.ext_size (s : ByteArray) (k : Nat) (h : 64 ≤ s.size) (hk : k < 16) : (s.extract (4 * k) (4 * k + 4)).size = 4 := by
 rw [ByteArray.size_extract]; omega
theorem Im.at_bd (s : ByteArray) (k : Nat) : 0 ≤ Im.at s k ∧ Im.at s k ≤ 4294967295 := by
 unfold Im.at Im.four Wd.four
 have h := fun b : UInt8 => Wd.byte_lt b
 have h0 := h ((s.extract (4 * k) (4 * k + 4)).data.toList.getD 0 0)
 have h1 := h ((s.extract (4 * k) (4 * k + 4)).data.toList.getD 1 0)
 have h2 := h ((s.extract (4 * k) (4 * k + 4)).data.toList.getD 2 0)
 have h3 := h ((s.extract (4 * k) (4 * k + 4)).data.toList.getD 3 0)
 omega
theorem at_any (s : ByteArray) (k : Nat) (w : World) (hs : 64 ≤ s.size) (hk : k = 1 ∨ k = 2 ∨ k = 7 ∨ k = 8 ∨ k = 9 ∨ k = 10) :
  Calls Tryz.prog 74 #[.string s, .int .i64 k] w fun e w' => e = .returned (.int .i64 (Im.at s k)) ∧ w = w' := by
 have he := Im.ext_size s k hs (by omega)
 rcases hk with rfl | rfl | rfl | rfl | rfl | rfl
 ·have HE := Lib.hid he
  clear he
  have hsl : ∀ w : World, (Instr.slice 9 (.string s) (some (.int .i64 4)) (some (.int .i64 8)) none).run Tryz.prog w = .ok (.string (s.extract (4 * 1) (4 * 1 + 4))) w := fun w => run_slice_string w 9 s .i64 .i64 4 8 Tryz.underlying9 (by decide) (by decide) (by omega)
  go_enter Tryz.func74, Tryz.ntmps74
  go_wp2_with (go_at_call 62; refine (of_size _ _ HE.out).mono ?_; rintro e w1 ⟨rfl, rfl⟩)
  go_ret
  exact ⟨rfl, rfl⟩
 ·have HE := Lib.hid he
  clear he
  have hsl : ∀ w : World, (Instr.slice 9 (.string s) (some (.int .i64 8)) (some (.int .i64 12)) none).run Tryz.prog w = .ok (.string (s.extract (4 * 2) (4 * 2 + 4))) w := fun w => run_slice_string w 9 s .i64 .i64 8 12 Tryz.underlying9 (by decide) (by decide) (by omega)
  go_enter Tryz.func74, Tryz.ntmps74
  go_wp2_with (go_at_call 62; refine (of_size _ _ HE.out).mono ?_; rintro e w1 ⟨rfl, rfl⟩)
  go_ret
  exact ⟨rfl, rfl⟩
 ·have HE := Lib.hid he
  clear he
  have hsl : ∀ w : World, (Instr.slice 9 (.string s) (some (.int .i64 28)) (some (.int .i64 32)) none).run Tryz.prog w = .ok (.string (s.extract (4 * 7) (4 * 7 + 4))) w := fun w => run_slice_string w 9 s .i64 .i64 28 32 Tryz.underlying9 (by decide) (by decide) (by omega)
  go_enter Tryz.func74, Tryz.ntmps74
  go_wp2_with (go_at_call 62; refine (of_size _ _ HE.out).mono ?_; rintro e w1 ⟨rfl, rfl⟩)
  go_ret
  exact ⟨rfl, rfl⟩
 ·have HE := Lib.hid he
  clear he
  have hsl : ∀ w : World, (Instr.slice 9 (.string s) (some (.int .i64 32)) (some (.int .i64 36)) none).run Tryz.prog w = .ok (.string (s.extract (4 * 8) (4 * 8 + 4))) w := fun w => run_slice_string w 9 s .i64 .i64 32 36 Tryz.underlying9 (by decide) (by decide) (by omega)
  go_enter Tryz.func74, Tryz.ntmps74
  go_wp2_with (go_at_call 62; refine (of_size _ _ HE.out).mono ?_; rintro e w1 ⟨rfl, rfl⟩)
  go_ret
  exact ⟨rfl, rfl⟩
 ·have HE := Lib.hid he
  clear he
  have hsl : ∀ w : World, (Instr.slice 9 (.string s) (some (.int .i64 36)) (some (.int .i64 40)) none).run Tryz.prog w = .ok (.string (s.extract (4 * 9) (4 * 9 + 4))) w := fun w => run_slice_string w 9 s .i64 .i64 36 40 Tryz.underlying9 (by decide) (by decide) (by omega)
  go_enter Tryz.func74, Tryz.ntmps74
  go_wp2_with (go_at_call 62; refine (of_size _ _ HE.out).mono ?_; rintro e w1 ⟨rfl, rfl⟩)
  go_ret
  exact ⟨rfl, rfl⟩
 ·have HE := Lib.hid he
  clear he
  have hsl : ∀ w : World, (Instr.slice 9 (.string s) (some (.int .i64 40)) (some (.int .i64 44)) none).run Tryz.prog w = .ok (.string (s.extract (4 * 10) (4 * 10 + 4))) w := fun w => run_slice_string w 9 s .i64 .i64 40 44 Tryz.underlying9 (by decide) (by decide) (by omega)
  go_enter Tryz.func74, Tryz.ntmps74
  go_wp2_with (go_at_call 62; refine (of_size _ _ HE.out).mono ?_; rintro e w1 ⟨rfl, rfl⟩)
  go_ret
  exact ⟨rfl, rfl⟩
end Go.Proofs.YthciobjklhkkcaaGreat
end
section
namespace Go.Proofs.YthciobjklhkkcaaGreat
open Go.ChangeShapes Go.WideShapes Go.ChangeAt Go.RowKit
set_option linter.unusedVariables false
set_option linter.unusedSimpArgs false
set_option maxHeartbeats 2000000
set_option maxRecDepth 10000

theorem made_15 (s : Cs.St) (rd rn rm : Nat) (ra imm cond l : Int) (wide : Bool) (w : World) (hd : rd < 13) (hn : rn < 13) (hm : rm < 13) (hw : ∀ j, 0 ≤ s.r j ∧ s.r j < 4294967296) :
  Calls Tryz.prog 117 #[.agg (Cs.cells s), .agg #[.int .i64 15, .int .i64 (rd : Int), .int .i64 (rn : Int), .int .i64 (rm : Int), .int .i64 ra, .int .i64 imm, .int .i64 cond, .bool wide], .int .i64 l] w fun e w' => e = .returned (.agg (Cs.cells (Cs.made s ⟨15, rd, rn, rm, ra, imm, cond, wide⟩ l))) ∧ Below w.heap.size w w' := by
 obtain ⟨gd, bd, bd0⟩ := Cs.idx s rd hd
 obtain ⟨gn, bn, bn0⟩ := Cs.idx s rn hn
 obtain ⟨gm, bm, bm0⟩ := Cs.idx s rm hm
 go_enter Tryz.func117, Tryz.ntmps117
 go_wp2_with fail
 go_quiet (fail)
 have H := Lib.hid (Cpu3.newN w nq s 15 rd rn rm ra imm cond wide)
 generalize World.drewN _ nq = W at *
 clear gd gn gm
 obtain ⟨i0, i1, i2, i3, i4, i5, i6, i7⟩ := H.out.ins
 have c1 := H.out.st.reg rd (by omega)
 have fz := H.out.st.open
 go_wp2_with fail
 go_still_tail 9, (by kernel_rfl)
 still_call (still (joined_any _ _ _ _))
 repeat still_step
 try refine wpStill_nil ?_
 change wpList _ _ _ _ _ W.drew
 replace H := Lib.hid H.out.drew
 clear i0 i1 i2 i3 i4 i5 i6 i7 c1 fz
 generalize W.drew = V at *
 have c1 := H.out.st.reg rd (by omega)
 have fz := H.out.st.open
 go_wp2_with (first | ((with_reducible refine wpList_load_st (H.out.reg rd hd _).st ?_ ?_); exact rfl) | ((with_reducible apply wpList_store_st (H.out.reg rd hd _).res); exact rfl))
 try simp only [Exit.inBlock, Exit.then]
 refine bp_state rfl rfl ((H.out.reg rd hd _).res.setRow _) rfl ⟨rfl, (H.out.reg rd hd _).end _⟩

theorem made_16 (s : Cs.St) (rd rn rm : Nat) (ra imm cond l : Int) (wide : Bool) (w : World) (hd : rd < 13) (hn : rn < 13) (hm : rm < 13) (hw : ∀ j, 0 ≤ s.r j ∧ s.r j < 4294967296) :
  Calls Tryz.prog 117 #[.agg (Cs.cells s), .agg #[.int .i64 16, .int .i64 (rd : Int), .int .i64 (rn : Int), .int .i64 (rm : Int), .int .i64 ra, .int .i64 imm, .int .i64 cond, .bool wide], .int .i64 l] w fun e w' => e = .returned (.agg (Cs.cells (Cs.made s ⟨16, rd, rn, rm, ra, imm, cond, wide⟩ l))) ∧ Below w.heap.size w w' := by
 obtain ⟨gd, bd, bd0⟩ := Cs.idx s rd hd
 obtain ⟨gn, bn, bn0⟩ := Cs.idx s rn hn
 obtain ⟨gm, bm, bm0⟩ := Cs.idx s rm hm
 go_enter Tryz.func117, Tryz.ntmps117
 go_wp2_with fail
 go_quiet (fail)
 have H := Lib.hid (Cpu3.newN w nq s 16 rd rn rm ra imm cond wide)
 generalize World.drewN _ nq = W at *
 clear gd gn gm
 obtain ⟨i0, i1, i2, i3, i4, i5, i6, i7⟩ := H.out.ins
 have c1 := H.out.st.reg rd (by omega)
 have fz := H.out.st.open
 go_wp2_with fail
 go_still_tail 9, (by kernel_rfl)
 still_call (still (joined_any _ _ _ _))
 repeat still_step
 try refine wpStill_nil ?_
 change wpList _ _ _ _ _ W.drew
 replace H := Lib.hid H.out.drew
 clear i0 i1 i2 i3 i4 i5 i6 i7 c1 fz
 generalize W.drew = V at *
 have c1 := H.out.st.reg rd (by omega)
 have fz := H.out.st.open
 go_wp2_with (first | ((with_reducible refine wpList_load_st (H.out.reg rd hd _).st ?_ ?_); exact rfl) | ((with_reducible apply wpList_store_st (H.out.reg rd hd _).res); exact rfl))
 try simp only [Exit.inBlock, Exit.then]
 refine bp_state rfl rfl ((H.out.reg rd hd _).res.setRow _) rfl ⟨rfl, (H.out.reg rd hd _).end _⟩

theorem made_19 (s : Cs.St) (rd rn rm : Nat) (ra imm cond l : Int) (wide : Bool) (w : World) (hd : rd < 13) (hn : rn < 13) (hm : rm < 13) (hw : ∀ j, 0 ≤ s.r j ∧ s.r j < 4294967296) :
  Calls Tryz.prog 117 #[.agg (Cs.cells s), .agg #[.int .i64 19, .int .i64 (rd : Int), .int .i64 (rn : Int), .int .i64 (rm : Int), .int .i64 ra, .int .i64 imm, .int .i64 cond, .bool wide], .int .i64 l] w fun e w' => e = .returned (.agg (Cs.cells (Cs.made s ⟨19, rd, rn, rm, ra, imm, cond, wide⟩ l))) ∧ Below w.heap.size w w' := by
 obtain ⟨gd, bd, bd0⟩ := Cs.idx s rd hd
 obtain ⟨gn, bn, bn0⟩ := Cs.idx s rn hn
 obtain ⟨gm, bm, bm0⟩ := Cs.idx s rm hm
 go_enter Tryz.func117, Tryz.ntmps117
 go_wp2_with fail
 go_quiet (fail)
 have H := Lib.hid (Cpu3.newN w nq s 19 rd rn rm ra imm cond wide)
 generalize World.drewN _ nq = W at *
 clear gd gn gm
 obtain ⟨i0, i1, i2, i3, i4, i5, i6, i7⟩ := H.out.ins
 have c1 := H.out.st.reg rd (by omega)
 have fz := H.out.st.open
 go_wp2_with fail
 go_still_tail 6, (by kernel_rfl)
 still_call (still (wrap_any _ _))
 repeat still_step
 try refine wpStill_nil ?_
 change wpList _ _ _ _ _ W.drew
 replace H := Lib.hid H.out.drew
 clear i0 i1 i2 i3 i4 i5 i6 i7 c1 fz
 generalize W.drew = V at *
 have c1 := H.out.st.reg rd (by omega)
 have fz := H.out.st.open
 go_wp2_with (first | ((with_reducible refine wpList_load_st (H.out.reg rd hd _).st ?_ ?_); exact rfl) | ((with_reducible apply wpList_store_st (H.out.reg rd hd _).res); exact rfl))
 try simp only [Exit.inBlock, Exit.then]
 refine bp_state rfl rfl ((H.out.reg rd hd _).res.setRow _) rfl ⟨rfl, (H.out.reg rd hd _).end _⟩

theorem made_21 (s : Cs.St) (rd rn rm : Nat) (ra imm cond l : Int) (wide : Bool) (w : World) (hd : rd < 13) (hn : rn < 13) (hm : rm < 13) (hw : ∀ j, 0 ≤ s.r j ∧ s.r j < 4294967296) :
  Calls Tryz.prog 117 #[.agg (Cs.cells s), .agg #[.int .i64 21, .int .i64 (rd : Int), .int .i64 (rn : Int), .int .i64 (rm : Int), .int .i64 ra, .int .i64 imm, .int .i64 cond, .bool wide], .int .i64 l] w fun e w' => e = .returned (.agg (Cs.cells (Cs.made s ⟨21, rd, rn, rm, ra, imm, cond, wide⟩ l))) ∧ Below w.heap.size w w' := by
 obtain ⟨gd, bd, bd0⟩ := Cs.idx s rd hd
 obtain ⟨gn, bn, bn0⟩ := Cs.idx s rn hn
 obtain ⟨gm, bm, bm0⟩ := Cs.idx s rm hm
 go_enter Tryz.func117, Tryz.ntmps117
 go_wp2_with fail
 go_quiet (fail)
 have H := Lib.hid (Cpu3.newN w nq s 21 rd rn rm ra imm cond wide)
 generalize World.drewN _ nq = W at *
 clear gd gn gm
 obtain ⟨i0, i1, i2, i3, i4, i5, i6, i7⟩ := H.out.ins
 have c1 := H.out.st.reg rd (by omega)
 have fz := H.out.st.open
 go_wp2_with (first | (go_at_call 145; refine (and_any _ _ _).mono ?_; rintro e w' ⟨rfl, rfl⟩))
 go_wp2_with fail
 go_still_tail 6, (by kernel_rfl)
 still_call (still (wrap_any _ _))
 repeat still_step
 try refine wpStill_nil ?_
 change wpList _ _ _ _ _ W.drew
 replace H := Lib.hid H.out.drew
 clear i0 i1 i2 i3 i4 i5 i6 i7 c1 fz
 generalize W.drew = V at *
 have c1 := H.out.st.reg rd (by omega)
 have fz := H.out.st.open
 go_wp2_with (first | ((with_reducible refine wpList_load_st (H.out.reg rd hd _).st ?_ ?_); exact rfl) | ((with_reducible apply wpList_store_st (H.out.reg rd hd _).res); exact rfl))
 try simp only [Exit.inBlock, Exit.then]
 refine bp_state rfl rfl ((H.out.reg rd hd _).res.setRow _) rfl ⟨by rw [Cs.ldrb]; rfl, (H.out.reg rd hd _).end _⟩

theorem made_1 (s : Cs.St) (rd rn rm : Nat) (ra imm cond l : Int) (wide : Bool) (w : World) (hd : rd < 13) (hn : rn < 13) (hm : rm < 13) (hw : ∀ j, 0 ≤ s.r j ∧ s.r j < 4294967296) :
  Calls Tryz.prog 117 #[.agg (Cs.cells s), .agg #[.int .i64 1, .int .i64 (rd : Int), .int .i64 (rn : Int), .int .i64 (rm : Int), .int .i64 ra, .int .i64 imm, .int .i64 cond, .bool wide], .int .i64 l] w fun e w' => e = .returned (.agg (Cs.cells (Cs.made s ⟨1, rd, rn, rm, ra, imm, cond, wide⟩ l))) ∧ Below w.heap.size w w' := by
 obtain ⟨gd, bd, bd0⟩ := Cs.idx s rd hd
 obtain ⟨gn, bn, bn0⟩ := Cs.idx s rn hn
 obtain ⟨gm, bm, bm0⟩ := Cs.idx s rm hm
 go_enter Tryz.func117, Tryz.ntmps117
 go_wp2_with fail
 go_quiet (fail)
 have H := Lib.hid (Cpu3.newN w nq s 1 rd rn rm ra imm cond wide)
 generalize World.drewN _ nq = W at *
 clear gd gn gm
 obtain ⟨i0, i1, i2, i3, i4, i5, i6, i7⟩ := H.out.ins
 have c1 := H.out.st.reg rd (by omega)
 have fz := H.out.st.open
 go_wp2_with (first | ((with_reducible refine wpList_load_st H.out.st ?_ ?_); exact rfl) | ((with_reducible apply wpList_store_st H.out.res); exact rfl))
 try simp only [Exit.inBlock, Exit.then]
 refine bp_state rfl rfl ((H.out).res.setRow _) rfl ⟨by rw [show Cs.made s ⟨1, rd, rn, rm, ra, imm, cond, wide⟩ l = s from Cs.put_same s rd], (H.out).end _⟩

theorem made_20 (s : Cs.St) (rd rn rm : Nat) (ra imm cond l : Int) (wide : Bool) (w : World) (hd : rd < 13) (hn : rn < 13) (hm : rm < 13) (hw : ∀ j, 0 ≤ s.r j ∧ s.r j < 4294967296) :
  Calls Tryz.prog 117 #[.agg (Cs.cells s), .agg #[.int .i64 20, .int .i64 (rd : Int), .int .i64 (rn : Int), .int .i64 (rm : Int), .int .i64 ra, .int .i64 imm, .int .i64 cond, .bool wide], .int .i64 l] w fun e w' => e = .returned (.agg (Cs.cells (Cs.made s ⟨20, rd, rn, rm, ra, imm, cond, wide⟩ l))) ∧ Below w.heap.size w w' := by
 obtain ⟨gd, bd, bd0⟩ := Cs.idx s rd hd
 obtain ⟨gn, bn, bn0⟩ := Cs.idx s rn hn
 obtain ⟨gm, bm, bm0⟩ := Cs.idx s rm hm
 go_enter Tryz.func117, Tryz.ntmps117
 go_wp2_with fail
 go_quiet (fail)
 have H := Lib.hid (Cpu3.newN w nq s 20 rd rn rm ra imm cond wide)
 generalize World.drewN _ nq = W at *
 clear gd gn gm
 obtain ⟨i0, i1, i2, i3, i4, i5, i6, i7⟩ := H.out.ins
 have c1 := H.out.st.reg rd (by omega)
 have fz := H.out.st.open
 go_wp2_with (first | ((with_reducible refine wpList_load_st H.out.st ?_ ?_); exact rfl) | ((with_reducible apply wpList_store_st H.out.res); exact rfl))
 try simp only [Exit.inBlock, Exit.then]
 refine bp_state rfl rfl ((H.out).res.setRow _) rfl ⟨by rw [show Cs.made s ⟨20, rd, rn, rm, ra, imm, cond, wide⟩ l = s from Cs.put_same s rd], (H.out).end _⟩

theorem made_22 (s : Cs.St) (rd rn rm : Nat) (ra imm cond l : Int) (wide : Bool) (w : World) (hd : rd < 13) (hn : rn < 13) (hm : rm < 13) (hw : ∀ j, 0 ≤ s.r j ∧ s.r j < 4294967296) :
  Calls Tryz.prog 117 #[.agg (Cs.cells s), .agg #[.int .i64 22, .int .i64 (rd : Int), .int .i64 (rn : Int), .int .i64 (rm : Int), .int .i64 ra, .int .i64 imm, .int .i64 cond, .bool wide], .int .i64 l] w fun e w' => e = .returned (.agg (Cs.cells (Cs.made s ⟨22, rd, rn, rm, ra, imm, cond, wide⟩ l))) ∧ Below w.heap.size w w' := by
 obtain ⟨gd, bd, bd0⟩ := Cs.idx s rd hd
 obtain ⟨gn, bn, bn0⟩ := Cs.idx s rn hn
 obtain ⟨gm, bm, bm0⟩ := Cs.idx s rm hm
 go_enter Tryz.func117, Tryz.ntmps117
 go_wp2_with fail
 go_quiet (fail)
 have H := Lib.hid (Cpu3.newN w nq s 22 rd rn rm ra imm cond wide)
 generalize World.drewN _ nq = W at *
 clear gd gn gm
 obtain ⟨i0, i1, i2, i3, i4, i5, i6, i7⟩ := H.out.ins
 have c1 := H.out.st.reg rd (by omega)
 have fz := H.out.st.open
 go_wp2_with (first | ((with_reducible refine wpList_load_st H.out.st ?_ ?_); exact rfl) | ((with_reducible apply wpList_store_st H.out.res); exact rfl))
 try simp only [Exit.inBlock, Exit.then]
 refine bp_state rfl rfl ((H.out).res.setRow _) rfl ⟨by rw [show Cs.made s ⟨22, rd, rn, rm, ra, imm, cond, wide⟩ l = s from Cs.put_same s rd], (H.out).end _⟩

theorem made_25 (s : Cs.St) (rd rn rm : Nat) (ra imm cond l : Int) (wide : Bool) (w : World) (hd : rd < 13) (hn : rn < 13) (hm : rm < 13) (hw : ∀ j, 0 ≤ s.r j ∧ s.r j < 4294967296) :
  Calls Tryz.prog 117 #[.agg (Cs.cells s), .agg #[.int .i64 25, .int .i64 (rd : Int), .int .i64 (rn : Int), .int .i64 (rm : Int), .int .i64 ra, .int .i64 imm, .int .i64 cond, .bool wide], .int .i64 l] w fun e w' => e = .returned (.agg (Cs.cells (Cs.made s ⟨25, rd, rn, rm, ra, imm, cond, wide⟩ l))) ∧ Below w.heap.size w w' := by
 obtain ⟨gd, bd, bd0⟩ := Cs.idx s rd hd
 obtain ⟨gn, bn, bn0⟩ := Cs.idx s rn hn
 obtain ⟨gm, bm, bm0⟩ := Cs.idx s rm hm
 go_enter Tryz.func117, Tryz.ntmps117
 go_wp2_with fail
 go_quiet (fail)
 have H := Lib.hid (Cpu3.newN w nq s 25 rd rn rm ra imm cond wide)
 generalize World.drewN _ nq = W at *
 clear gd gn gm
 obtain ⟨i0, i1, i2, i3, i4, i5, i6, i7⟩ := H.out.ins
 have c1 := H.out.st.reg rd (by omega)
 have fz := H.out.st.open
 go_wp2_with (first | ((with_reducible refine wpList_load_st H.out.st ?_ ?_); exact rfl) | ((with_reducible apply wpList_store_st H.out.res); exact rfl))
 try simp only [Exit.inBlock, Exit.then]
 refine bp_state rfl rfl ((H.out).res.setRow _) rfl ⟨by rw [show Cs.made s ⟨25, rd, rn, rm, ra, imm, cond, wide⟩ l = s from Cs.put_same s rd], (H.out).end _⟩

end Go.Proofs.YthciobjklhkkcaaGreat
end
