/-
 Package machine: what Step returns.
-/
import Derived.Test.YthciobjklhkkcaaGreatMachK
namespace Go.Proofs.YthciobjklhkkcaaGreat
open Go.ChangeShapes Go.WideShapes Go.ChangeAt Go.RowKit
set_option maxHeartbeats 8000000
set_option maxRecDepth 10000
set_option linter.unusedVariables false
set_option linter.unusedSimpArgs false

/-- a fault and an event in new blocks, a machine -/
structure Sp (w : World) (n : Nat) (W : World) (b : Nat) (l : My.Loc) (s : My.St) (hd : Int) (m : Mc.M) (fc ec : Array Value) : Prop where
 flt : Blk W n 23 4 fc
 ev : Blk W (n + 1) 49 4 ec
 mac : MacAt W b l s hd m
 rest : Rest (Mc.mine b l) w W
 new : Mc.off b l n ∧ Mc.off b l (n + 1)
 le : w.heap.size ≤ n
section
variable {w W W' : World} {n b : Nat} {l : My.Loc} {s : My.St} {hd : Int} {m m' : Mc.M} {fc ec ds : Array Value}
theorem Sp.kept (h : Sp w n W b l s hd m fc ec) (hb : Below W.heap.size W W') : Sp w n W' b l s hd m fc ec := ⟨h.flt.kept hb, h.ev.kept hb, h.mac.kept hb, h.rest.trans (Rest.of hb), h.new, h.le⟩
theorem Sp.moved (h : Sp w n W b l s hd m fc ec) (hr : Rest (Mc.mine b l) W W') (hm : MacAt W' b l s hd m') : Sp w n W' b l s hd m' fc ec := ⟨h.flt.rest hr h.new.1.1, h.ev.rest hr h.new.2.1, hm, h.rest.trans hr, h.new, h.le⟩
theorem rest_row {X : Nat → Prop} {w W : World} (h : Rest X w W) (g : Nat) (hg : w.heap.size ≤ g) (ds : Array Value) : Rest X w (W.setRow g ds) :=
 ⟨h.os, h.tape, h.output, by have := h.size; simpa using this, fun k hk hx => (setRow_other W g k ds (by omega)).trans (h.block k hk hx)⟩
theorem Sp.fltRow (h : Sp w n W b l s hd m fc ec) (hd' : ds.size = 4) : Sp w n (W.setRow n ds) b l s hd m ds ec := ⟨h.flt.row hd', h.ev.otherRow _ _ (by omega), h.mac.otherRow _ _ h.new.1, rest_row h.rest _ h.le _, h.new, h.le⟩
theorem Sp.evRow (h : Sp w n W b l s hd m fc ec) (hd' : ds.size = 4) : Sp w n (W.setRow (n + 1) ds) b l s hd m fc ds := ⟨h.flt.otherRow _ _ (by omega), h.ev.row hd', h.mac.otherRow _ _ h.new.2, rest_row h.rest _ (by have := h.le; omega) _, h.new, h.le⟩
end
theorem sp_start {w W2 : World} {b : Nat} {l : My.Loc} {s : My.St} {hd : Int} {m : Mc.M} {kind sn reg bit : Int} (hm : MacAt w b l s hd m) (hW : (w.alloc (.cells #[.int .i64 kind, .int .i64 sn, .int .i64 reg, .int .i64 bit] 23)).alloc (.cells #[.int .i64 0, .int .i64 0, .int .i64 0, .int .i64 0] 49) = W2) :
  Sp w w.heap.size W2 b l s hd m #[.int .i64 kind, .int .i64 sn, .int .i64 reg, .int .i64 bit] #[.int .i64 0, .int .i64 0, .int .i64 0, .int .i64 0] := by
 subst hW
 exact ⟨(Blk.new' _ _ _ _ rfl rfl : Blk _ _ _ 4 _).alloc _, Blk.new' _ _ _ _ (by simp) rfl, (hm.alloc _).alloc _, Rest.of (((Below.refl _ _).alloc (Nat.le_refl _) _).alloc (by simp) _), ⟨hm.newer (Nat.le_refl _), hm.newer (by omega)⟩, Nat.le_refl _⟩
theorem wp_store_mac {o : Oper} {a : Act} {w : World} {Q : Exit → Act → World → Prop} {K : Act → World → Prop} {b : Nat} {l : My.Loc} {s : My.St} {hd : Int} {m : Mc.M} (h : MacAt w b l s hd m) (t : Cs.St) (ho : stOf a o = some (56, .pointer (some ⟨b, 3, none⟩), .agg (Cs.cells t)))
  (k : ∀ w', MacAt w' b l s hd { m with st := t } → Rest (Mc.mine b l) w w' → K (a.put o.dst undef) w') : Oper.wp Tryz.prog o a w K Q := by
 obtain ⟨hg, x, y, ho, hx, hy⟩ := stOf_eq ho
 exact wp_store_mid (P := Tryz.prog) _ x y ho b 3 (Cs.cells t) hx hy h.there info_state (Cs.cells_one t) (k _ (h.setSt t) (rest_setCells b (.inl rfl) _ _ _))
theorem step_done (b : Nat) (l : My.Loc) (s : My.St) (hd : Int) (m : Mc.M) (kind sn reg bit : Int) (w : World) (hm : Hid (MacAt w b l s hd m)) (hdn : m.done = true) :
  Calls Tryz.prog 19 #[.pointer (some ⟨b, 0, none⟩), .agg #[.int .i64 kind, .int .i64 sn, .int .i64 reg, .int .i64 bit]] w fun e w' => e = .returned (.tuple #[.agg #[.int .i64 0, .int .i64 0, .int .i64 0, .int .i64 0], .bool false]) ∧ Below w.heap.size w w' := by
 obtain ⟨W2, hW⟩ : ∃ W2, (w.alloc (.cells #[.int .i64 kind, .int .i64 sn, .int .i64 reg, .int .i64 bit] 23)).alloc (.cells #[.int .i64 0, .int .i64 0, .int .i64 0, .int .i64 0] 49) = W2 := ⟨_, rfl⟩
 have H2 := Lib.hid (sp_start hm.out hW)
 have hb : Below w.heap.size w W2 := by rw [← hW]; exact ((Below.refl _ _).alloc (Nat.le_refl _) _).alloc (by simp) _
 have HB := Lib.hid hb
 have CD := Lib.hid (fun (W : World) (h : MacAt W b l s hd m) => done_any b l s hd m W (Lib.hid h))
 rw [hdn] at CD
 clear hdn hm hb
 go_enter Tryz.func19, Tryz.ntmps19
 go_wp2_with (first | (go_at_call 18; refine (CD.out _ H2.out.mac).mono ?_; rintro e w' ⟨rfl, rfl⟩) | ((with_reducible refine wpList_store_blk evT H2.out.ev (fits4 0 0 0 0) ?_ ?_); exact rfl))
 exact bp_blk2 evT rfl rfl (H2.out.ev.row rfl) rfl ⟨rfl, below_setRow HB.out (by omega) _⟩
theorem step_y (b : Nat) (l : My.Loc) (s : My.St) (hd : Int) (m m' : Mc.M) (kind sn reg bit : Int) (S1 : Cs.St) (k' p' a' c' : Int) (B : Bool) (w : World) (hm : Hid (MacAt w b l s hd m)) (hdn : m.done = false) (hB : (kind == 1) = B)
  (CM : Hid (∀ W : World, Calls Tryz.prog 29 #[.agg #[.int .i64 kind, .int .i64 sn, .int .i64 reg, .int .i64 bit]] W fun e w' => e = .returned (.bool true) ∧ Below W.heap.size W w'))
  (CT : Hid (∀ W : World, Calls Tryz.prog 34 #[.agg (Cs.cells m.st), .agg #[.int .i64 kind, .int .i64 sn, .int .i64 reg, .int .i64 bit]] W fun e w' => e = .returned (.agg (Cs.cells S1)) ∧ Below W.heap.size W w'))
  (CA : Hid (∀ W : World, MacAt W b l s hd { m with st := S1 } → Calls Tryz.prog 35 #[.pointer (some ⟨b, 0, none⟩), .bool B] W fun e w' => e = .returned (.agg #[.int .i64 k', .int .i64 p', .int .i64 a', .int .i64 c']) ∧ MacAt w' b l s hd m' ∧ Rest (Mc.mine b l) W w')) :
  Calls Tryz.prog 19 #[.pointer (some ⟨b, 0, none⟩), .agg #[.int .i64 kind, .int .i64 sn, .int .i64 reg, .int .i64 bit]] w fun e w' => e = .returned (.tuple #[.agg #[.int .i64 k', .int .i64 p', .int .i64 a', .int .i64 c'], .bool true]) ∧ MacAt w' b l s hd m' ∧ Rest (Mc.mine b l) w w' := by
 obtain ⟨W2, hW⟩ : ∃ W2, (w.alloc (.cells #[.int .i64 kind, .int .i64 sn, .int .i64 reg, .int .i64 bit] 23)).alloc (.cells #[.int .i64 0, .int .i64 0, .int .i64 0, .int .i64 0] 49) = W2 := ⟨_, rfl⟩
 have H2 := Lib.hid (sp_start hm.out hW)
 have CD := Lib.hid (fun (W : World) (h : MacAt W b l s hd m) => done_any b l s hd m W (Lib.hid h))
 rw [hdn] at CD
 clear hdn hm
 go_enter Tryz.func19, Tryz.ntmps19
 go_wp2_with (first | (go_at_call 18; refine (CD.out _ H2.out.mac).mono ?_; rintro e w' ⟨rfl, rfl⟩) | ((with_reducible refine wpList_load_blk faultT H2.out.flt ?_ ?_); exact rfl) | (go_at_call 29; refine (CM.out _).mono ?_; rintro e w3 ⟨rfl, hb3⟩; have H3 := Lib.hid (H2.out.kept hb3); clear hb3))
 clear hW
 obtain ⟨n, hn⟩ : ∃ n, w.heap.size = n := ⟨_, rfl⟩
 rw [hn] at H3 ⊢
 have HD := Lib.hid (H3.out.kept (Below.refl _ _).drew)
 refine wp_region_held_drew (S := fun wx => Blk wx n 23 4 #[.int .i64 kind, .int .i64 sn, .int .i64 reg, .int .i64 bit]) (by kernel_rfl) (HD.out.flt) (fun hHeld => ?_)
 refine wpAnyH_take (i := 0) (v := ?_) rfl (by kernel_rfl) (by kernel_rfl) (by kernel_rfl) (fun _ _ _ h => h) (Or.inl ⟨by rfl, ?_⟩) (by assumption) ?_
 rotate_left
 ·intro w hSw
  (try dsimp only at hSw)
  go_simp
  (try with_reducible rfl)
 (try simp only [Act.put, List.setIfInBounds_toArray, List.set_cons_zero, List.set_cons_succ, List.getElem_toArray, List.getElem_cons_succ, List.getElem_cons_zero])
 refine wpAnyH_take (i := 1) (v := ?_) rfl (by kernel_rfl) (by kernel_rfl) (by kernel_rfl) (fun _ _ _ h => h) (Or.inl ⟨by rfl, ?_⟩) (by assumption) ?_
 rotate_left
 ·intro w hSw
  (try dsimp only at hSw)
  go_simp
  (try with_reducible rfl)
 (try simp only [Act.put, List.setIfInBounds_toArray, List.set_cons_zero, List.set_cons_succ, List.getElem_toArray, List.getElem_cons_succ, List.getElem_cons_zero])
 refine wpAnyH_take (i := 2) (v := ?_) rfl (by kernel_rfl) (by kernel_rfl) (by kernel_rfl) (fun _ _ _ h => h) (Or.inl ⟨by rfl, ?_⟩) (by assumption) ?_
 rotate_left
 ·intro w hSw
  (try dsimp only at hSw)
  go_simp
  (try with_reducible rfl)
 (try simp only [Act.put, List.setIfInBounds_toArray, List.set_cons_zero, List.set_cons_succ, List.getElem_toArray, List.getElem_cons_succ, List.getElem_cons_zero])
 refine wpAnyH_take (i := 3) (v := ?_) rfl (by kernel_rfl) (by kernel_rfl) (by kernel_rfl) (fun _ _ _ h => h) (Or.inl ⟨by rfl, ?_⟩) (by assumption) ?_
 rotate_left
 ·intro w hSw
  (try dsimp only at hSw)
  go_simp
  (try with_reducible rfl)
 (try simp only [Act.put, List.setIfInBounds_toArray, List.set_cons_zero, List.set_cons_succ, List.getElem_toArray, List.getElem_cons_succ, List.getElem_cons_zero])
 refine wpAnyH_take (i := 5) (v := _) rfl (by kernel_rfl) (by kernel_rfl) (by kernel_rfl) (fun _ _ _ h => h) (yieldsIf_load_blk faultT (by rfl) rfl (fun _ h => h)) (by assumption) ?_
 (try simp only [Act.put, List.setIfInBounds_toArray, List.set_cons_zero, List.set_cons_succ, List.getElem_toArray, List.getElem_cons_succ, List.getElem_cons_zero])
 refine wpAnyH_ready (rs := [4]) (by kernel_rfl) (by simp) ?_
 refine AllReadyH.cons rfl (fun K hK => ?_) AllReadyH.nil
 refine wp_load_mac HD.out.mac rfl ?_
 refine hK.out _ _ HD.out.flt (fun _ => ?_)
 clear hK K
 (try simp only [Act.put, List.setIfInBounds_toArray, List.set_cons_zero, List.set_cons_succ, List.getElem_toArray, List.getElem_cons_succ, List.getElem_cons_zero])
 refine wpAnyH_ready (rs := [6]) (by kernel_rfl) (by simp) ?_
 refine AllReadyH.cons rfl (fun K hK => ?_) AllReadyH.nil
 go_simp
 go_at_call 34; refine (CT.out _).mono ?_; rintro e w5 ⟨rfl, hb5⟩
 have H5 := Lib.hid (HD.out.kept hb5)
 refine hK.out _ _ H5.out.flt (fun hHeld => ?_)
 clear hK K hb5
 (try simp only [Act.put, List.setIfInBounds_toArray, List.set_cons_zero, List.set_cons_succ, List.getElem_toArray, List.getElem_cons_succ, List.getElem_cons_zero])
 refine wpAnyH_take (i := 7) (v := ?_) rfl (by kernel_rfl) (by kernel_rfl) (by kernel_rfl) (fun _ _ _ h => h) (Or.inl ⟨by rfl, ?_⟩) (by assumption) ?_
 rotate_left
 ·intro w hSw
  (try dsimp only at hSw)
  go_simp
  (try with_reducible rfl)
 (try simp only [Act.put, List.setIfInBounds_toArray, List.set_cons_zero, List.set_cons_succ, List.getElem_toArray, List.getElem_cons_succ, List.getElem_cons_zero])
 refine wpAnyH_take (i := 8) (v := ?_) rfl (by kernel_rfl) (by kernel_rfl) (by kernel_rfl) (fun _ _ _ h => h) (Or.inl ⟨by rfl, ?_⟩) (by assumption) ?_
 rotate_left
 ·intro w hSw
  (try dsimp only at hSw)
  go_simp
  (try with_reducible rfl)
 (try simp only [Act.put, List.setIfInBounds_toArray, List.set_cons_zero, List.set_cons_succ, List.getElem_toArray, List.getElem_cons_succ, List.getElem_cons_zero])
 refine wpAnyH_ready (rs := [9]) (by kernel_rfl) (by simp) ?_
 refine AllReadyH.cons rfl (fun K hK => ?_) AllReadyH.nil
 refine wp_store_mac H5.out.mac S1 rfl (fun w6 hM6 hR6 => ?_)
 have H6 := Lib.hid (H5.out.moved hR6 hM6)
 refine hK.out _ _ H6.out.flt (fun _ => ?_)
 clear hK K hM6 hR6
 (try simp only [Act.put, List.setIfInBounds_toArray, List.set_cons_zero, List.set_cons_succ, List.getElem_toArray, List.getElem_cons_succ, List.getElem_cons_zero])
 refine wpAnyH_done (by kernel_rfl) ?_ _
 have c0 := H6.out.flt.cell 0
 go_wp2_with (first | (go_at_call 35; refine (CA.out _ H6.out.mac).mono ?_; rintro e w7 ⟨rfl, hM7, hR7⟩; have H7 := Lib.hid (H6.out.moved hR7 hM7); clear hM7 hR7) | ((with_reducible refine wpList_store_blk evT H7.out.ev (fits4 k' p' a' c') ?_ ?_); exact rfl))
 have hE := H7.out.evRow (ds := #[.int .i64 k', .int .i64 p', .int .i64 a', .int .i64 c']) rfl
 exact bp_blk2 evT rfl rfl hE.ev rfl ⟨rfl, hE.mac, hE.rest⟩
theorem step_n (b : Nat) (l : My.Loc) (s : My.St) (hd : Int) (m m' : Mc.M) (kind sn reg bit : Int) (S1 : Cs.St) (k' p' a' c' : Int) (w : World) (hm : Hid (MacAt w b l s hd m)) (hdn : m.done = false)
  (CM : Hid (∀ W : World, Calls Tryz.prog 29 #[.agg #[.int .i64 kind, .int .i64 sn, .int .i64 reg, .int .i64 bit]] W fun e w' => e = .returned (.bool false) ∧ Below W.heap.size W w'))
  (CT : Hid (∀ W : World, Calls Tryz.prog 34 #[.agg (Cs.cells m.st), .agg #[.int .i64 0, .int .i64 0, .int .i64 0, .int .i64 0]] W fun e w' => e = .returned (.agg (Cs.cells S1)) ∧ Below W.heap.size W w'))
  (CA : Hid (∀ W : World, MacAt W b l s hd { m with st := S1 } → Calls Tryz.prog 35 #[.pointer (some ⟨b, 0, none⟩), .bool false] W fun e w' => e = .returned (.agg #[.int .i64 k', .int .i64 p', .int .i64 a', .int .i64 c']) ∧ MacAt w' b l s hd m' ∧ Rest (Mc.mine b l) W w')) :
  Calls Tryz.prog 19 #[.pointer (some ⟨b, 0, none⟩), .agg #[.int .i64 kind, .int .i64 sn, .int .i64 reg, .int .i64 bit]] w fun e w' => e = .returned (.tuple #[.agg #[.int .i64 k', .int .i64 p', .int .i64 a', .int .i64 c'], .bool true]) ∧ MacAt w' b l s hd m' ∧ Rest (Mc.mine b l) w w' := by
 obtain ⟨W2, hW⟩ : ∃ W2, (w.alloc (.cells #[.int .i64 kind, .int .i64 sn, .int .i64 reg, .int .i64 bit] 23)).alloc (.cells #[.int .i64 0, .int .i64 0, .int .i64 0, .int .i64 0] 49) = W2 := ⟨_, rfl⟩
 have H2 := Lib.hid (sp_start hm.out hW)
 have CD := Lib.hid (fun (W : World) (h : MacAt W b l s hd m) => done_any b l s hd m W (Lib.hid h))
 rw [hdn] at CD
 clear hdn hm
 go_enter Tryz.func19, Tryz.ntmps19
 go_wp2_with (first | (go_at_call 18; refine (CD.out _ H2.out.mac).mono ?_; rintro e w' ⟨rfl, rfl⟩) | ((with_reducible refine wpList_load_blk faultT H2.out.flt ?_ ?_); exact rfl) | (go_at_call 29; refine (CM.out _).mono ?_; rintro e w3 ⟨rfl, hb3⟩; have H3 := Lib.hid (H2.out.kept hb3); clear hb3) | ((with_reducible refine wpList_store_blk faultT H3.out.flt (fits4 0 0 0 0) ?_ ?_); exact rfl; have H3z := Lib.hid (H3.out.fltRow (ds := #[.int .i64 0, .int .i64 0, .int .i64 0, .int .i64 0]) rfl); generalize World.setRow _ _ _ = V3 at *))
 clear hW
 obtain ⟨n, hn⟩ : ∃ n, w.heap.size = n := ⟨_, rfl⟩
 rw [hn] at H3z ⊢
 have HD := Lib.hid (H3z.out.kept (Below.refl _ _).drew)
 refine wp_region_held_drew (S := fun wx => Blk wx n 23 4 #[.int .i64 0, .int .i64 0, .int .i64 0, .int .i64 0]) (by kernel_rfl) (HD.out.flt) (fun hHeld => ?_)
 refine wpAnyH_take (i := 0) (v := ?_) rfl (by kernel_rfl) (by kernel_rfl) (by kernel_rfl) (fun _ _ _ h => h) (Or.inl ⟨by rfl, ?_⟩) (by assumption) ?_
 rotate_left
 ·intro w hSw
  (try dsimp only at hSw)
  go_simp
  (try with_reducible rfl)
 (try simp only [Act.put, List.setIfInBounds_toArray, List.set_cons_zero, List.set_cons_succ, List.getElem_toArray, List.getElem_cons_succ, List.getElem_cons_zero])
 refine wpAnyH_take (i := 1) (v := ?_) rfl (by kernel_rfl) (by kernel_rfl) (by kernel_rfl) (fun _ _ _ h => h) (Or.inl ⟨by rfl, ?_⟩) (by assumption) ?_
 rotate_left
 ·intro w hSw
  (try dsimp only at hSw)
  go_simp
  (try with_reducible rfl)
 (try simp only [Act.put, List.setIfInBounds_toArray, List.set_cons_zero, List.set_cons_succ, List.getElem_toArray, List.getElem_cons_succ, List.getElem_cons_zero])
 refine wpAnyH_take (i := 2) (v := ?_) rfl (by kernel_rfl) (by kernel_rfl) (by kernel_rfl) (fun _ _ _ h => h) (Or.inl ⟨by rfl, ?_⟩) (by assumption) ?_
 rotate_left
 ·intro w hSw
  (try dsimp only at hSw)
  go_simp
  (try with_reducible rfl)
 (try simp only [Act.put, List.setIfInBounds_toArray, List.set_cons_zero, List.set_cons_succ, List.getElem_toArray, List.getElem_cons_succ, List.getElem_cons_zero])
 refine wpAnyH_take (i := 3) (v := ?_) rfl (by kernel_rfl) (by kernel_rfl) (by kernel_rfl) (fun _ _ _ h => h) (Or.inl ⟨by rfl, ?_⟩) (by assumption) ?_
 rotate_left
 ·intro w hSw
  (try dsimp only at hSw)
  go_simp
  (try with_reducible rfl)
 (try simp only [Act.put, List.setIfInBounds_toArray, List.set_cons_zero, List.set_cons_succ, List.getElem_toArray, List.getElem_cons_succ, List.getElem_cons_zero])
 refine wpAnyH_take (i := 5) (v := _) rfl (by kernel_rfl) (by kernel_rfl) (by kernel_rfl) (fun _ _ _ h => h) (yieldsIf_load_blk faultT (by rfl) rfl (fun _ h => h)) (by assumption) ?_
 (try simp only [Act.put, List.setIfInBounds_toArray, List.set_cons_zero, List.set_cons_succ, List.getElem_toArray, List.getElem_cons_succ, List.getElem_cons_zero])
 refine wpAnyH_ready (rs := [4]) (by kernel_rfl) (by simp) ?_
 refine AllReadyH.cons rfl (fun K hK => ?_) AllReadyH.nil
 refine wp_load_mac HD.out.mac rfl ?_
 refine hK.out _ _ HD.out.flt (fun _ => ?_)
 clear hK K
 (try simp only [Act.put, List.setIfInBounds_toArray, List.set_cons_zero, List.set_cons_succ, List.getElem_toArray, List.getElem_cons_succ, List.getElem_cons_zero])
 refine wpAnyH_ready (rs := [6]) (by kernel_rfl) (by simp) ?_
 refine AllReadyH.cons rfl (fun K hK => ?_) AllReadyH.nil
 go_simp
 go_at_call 34; refine (CT.out _).mono ?_; rintro e w5 ⟨rfl, hb5⟩
 have H5 := Lib.hid (HD.out.kept hb5)
 refine hK.out _ _ H5.out.flt (fun hHeld => ?_)
 clear hK K hb5
 (try simp only [Act.put, List.setIfInBounds_toArray, List.set_cons_zero, List.set_cons_succ, List.getElem_toArray, List.getElem_cons_succ, List.getElem_cons_zero])
 refine wpAnyH_take (i := 7) (v := ?_) rfl (by kernel_rfl) (by kernel_rfl) (by kernel_rfl) (fun _ _ _ h => h) (Or.inl ⟨by rfl, ?_⟩) (by assumption) ?_
 rotate_left
 ·intro w hSw
  (try dsimp only at hSw)
  go_simp
  (try with_reducible rfl)
 (try simp only [Act.put, List.setIfInBounds_toArray, List.set_cons_zero, List.set_cons_succ, List.getElem_toArray, List.getElem_cons_succ, List.getElem_cons_zero])
 refine wpAnyH_take (i := 8) (v := ?_) rfl (by kernel_rfl) (by kernel_rfl) (by kernel_rfl) (fun _ _ _ h => h) (Or.inl ⟨by rfl, ?_⟩) (by assumption) ?_
 rotate_left
 ·intro w hSw
  (try dsimp only at hSw)
  go_simp
  (try with_reducible rfl)
 (try simp only [Act.put, List.setIfInBounds_toArray, List.set_cons_zero, List.set_cons_succ, List.getElem_toArray, List.getElem_cons_succ, List.getElem_cons_zero])
 refine wpAnyH_ready (rs := [9]) (by kernel_rfl) (by simp) ?_
 refine AllReadyH.cons rfl (fun K hK => ?_) AllReadyH.nil
 refine wp_store_mac H5.out.mac S1 rfl (fun w6 hM6 hR6 => ?_)
 have H6 := Lib.hid (H5.out.moved hR6 hM6)
 refine hK.out _ _ H6.out.flt (fun _ => ?_)
 clear hK K hM6 hR6
 (try simp only [Act.put, List.setIfInBounds_toArray, List.set_cons_zero, List.set_cons_succ, List.getElem_toArray, List.getElem_cons_succ, List.getElem_cons_zero])
 refine wpAnyH_done (by kernel_rfl) ?_ _
 have c0 := H6.out.flt.cell 0
 go_wp2_with (first | (go_at_call 35; refine (CA.out _ H6.out.mac).mono ?_; rintro e w7 ⟨rfl, hM7, hR7⟩; have H7 := Lib.hid (H6.out.moved hR7 hM7); clear hM7 hR7) | ((with_reducible refine wpList_store_blk evT H7.out.ev (fits4 k' p' a' c') ?_ ?_); exact rfl))
 have hE := H7.out.evRow (ds := #[.int .i64 k', .int .i64 p', .int .i64 a', .int .i64 c']) rfl
 exact bp_blk2 evT rfl rfl hE.ev rfl ⟨rfl, hE.mac, hE.rest⟩
end Go.Proofs.YthciobjklhkkcaaGreat
