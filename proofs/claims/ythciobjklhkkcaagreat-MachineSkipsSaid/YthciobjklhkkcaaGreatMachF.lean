/-
 Package machine: what access returns.
-/
import Derived.Test.YthciobjklhkkcaaGreatMachE
namespace Go.Proofs.YthciobjklhkkcaaGreat
open Go.ChangeShapes Go.WideShapes Go.ChangeAt Go.RowKit
set_option maxHeartbeats 8000000
set_option maxRecDepth 10000
set_option linter.unusedVariables false
set_option linter.unusedSimpArgs false

theorem yieldsIf_load_mac {ops : Array Oper} {S : World → Prop} {o : Oper} {a : Act} {b : Nat} {l : My.Loc} {s : My.St} {hd : Int} {m : Mc.M} (hw : Region.wanted o (yielded ops a.tmps) = true) (ho : ldOp a o = some (56, .pointer (some ⟨b, 3, none⟩))) (hS : ∀ w, S w → MacAt w b l s hd m) : YieldsIf Tryz.prog ops S o (.agg (Cs.cells m.st)) a := by
 obtain ⟨x, ho, hx⟩ := ldOp_eq ho
 have := yieldsIf_load_mid (P := Tryz.prog) (ops := ops) (S := S) hw _ x ho b 3 hx (Cs.cells m.st).toList _ (fun w h => (hS w h).range) Tryz.underlying56 rfl info_state
 exact this
theorem yieldsIf_load_blk {ops : Array Oper} {S : World → Prop} {o : Oper} {a : Act} {b n : Nat} {t : TypeId} {cs : Array Value} (T : StructT t n) (hw : Region.wanted o (yielded ops a.tmps) = true) (ho : ldOp a o = some (t, .pointer (some ⟨b, 0, none⟩))) (hS : ∀ w, S w → Blk w b t n cs) : YieldsIf Tryz.prog ops S o (.agg cs) a := by
 obtain ⟨x, ho, hx⟩ := ldOp_eq ho
 obtain ⟨fs, hu⟩ := T.und
 refine .inl ⟨hw, fun w hw' => ?_⟩
 have h := hS w hw'
 unfold execOp
 simp only [ho, hx, Instr.loadAt, Instr.sureAddr, Sem.run_bind, Sem.run_pure, Result.andThen_ok, run_loadVar_row w b _ _ _ _ _ h.at' hu rfl (by rw [h.size]; exact T.info)]
/-- what access leaves -/
def Mc.AccPost (b : Nat) (l : My.Loc) (s : My.St) (hd : Int) (m : Mc.M) (w : World) (B : Bool) (ad L E : Int) (M' : Int → UInt8) (e : Ending) (w' : World) : Prop :=
 if B = true then (if E = 0 then e = .returned (.tuple #[.int .i64 ad, .int .i64 L]) else e = gaveUp ad) ∧ MacAt w' b l s hd { m with mem := M' } ∧ Rest l.own w w'
 else e = .returned (.tuple #[.int .i64 0, .int .i64 0]) ∧ MacAt w' b l s hd m ∧ Rest l.own w w'
section
variable {b : Nat} {l : My.Loc} {s : My.St} {hd : Int} {m : Mc.M} {w w' : World} {ad L E : Int} {M' : Int → UInt8} {e : Ending}
theorem Mc.accPost_n (h : e = .returned (.tuple #[.int .i64 0, .int .i64 0]) ∧ MacAt w' b l s hd m ∧ Rest l.own w w') : Mc.AccPost b l s hd m w false ad L E M' e w' := h
theorem Mc.accPost_y (hE : E = 0) (h : e = .returned (.tuple #[.int .i64 ad, .int .i64 L]) ∧ MacAt w' b l s hd { m with mem := M' } ∧ Rest l.own w w') : Mc.AccPost b l s hd m w true ad L E M' e w' := by
 unfold Mc.AccPost; rw [if_pos rfl, if_pos hE]; exact h
theorem Mc.accPost_e (hE : ¬ E = 0) (h : e = gaveUp ad ∧ MacAt w' b l s hd { m with mem := M' } ∧ Rest l.own w w') : Mc.AccPost b l s hd m w true ad L E M' e w' := by
 unfold Mc.AccPost; rw [if_pos rfl, if_neg hE]; exact h
end
theorem fitsA (a b c : Int) (d : Bool) : Fits 4 #[.int .i64 a, .int .i64 b, .int .i64 c, .bool d] := ⟨rfl, by simp [Value.oneCell']⟩
theorem macc_gen (b : Nat) (l : My.Loc) (s : My.St) (hd : Int) (m : Mc.M) (op rd rn rm ra imm cond : Int) (wide : Bool) (ad sz vl L E : Int) (wr B : Bool) (M' : Int → UInt8) (w : World) (hm : Hid (MacAt w b l s hd m))
  (C1 : Hid (∀ W : World, Calls Tryz.prog 112 #[.agg (Cs.cells m.st), .agg #[.int .i64 op, .int .i64 rd, .int .i64 rn, .int .i64 rm, .int .i64 ra, .int .i64 imm, .int .i64 cond, .bool wide]] W fun e w' => e = .returned (.tuple #[.agg #[.int .i64 ad, .int .i64 sz, .int .i64 vl, .bool wr], .bool B]) ∧ Below W.heap.size W w'))
  (CM : Hid (∀ W : World, MacAt W b l s hd m → Calls Tryz.prog 113 #[.pointer (some ⟨b, 0, none⟩), .agg #[.int .i64 ad, .int .i64 sz, .int .i64 vl, .bool wr]] W fun e w' => e = .returned (.tuple #[.int .i64 L, .int .i64 E]) ∧ (MacAt w' b l s hd { m with mem := M' } ∧ Rest l.own W w'))) :
  Calls Tryz.prog 85 #[.pointer (some ⟨b, 0, none⟩), .agg #[.int .i64 op, .int .i64 rd, .int .i64 rn, .int .i64 rm, .int .i64 ra, .int .i64 imm, .int .i64 cond, .bool wide]] w (Mc.AccPost b l s hd m w B ad L E M') := by
 have hpn : ∀ (t : TypeId) (v : Value) (w : World), (Instr.panic (.iface t v)).run Tryz.prog w = .halt (.panic (.iface t v)) w := fun _ _ _ => rfl
 have H0 : Hid (Blk (w.alloc (.cells #[.int .i64 op, .int .i64 rd, .int .i64 rn, .int .i64 rm, .int .i64 ra, .int .i64 imm, .int .i64 cond, .bool wide] 123)) w.heap.size 123 8 #[.int .i64 op, .int .i64 rd, .int .i64 rn, .int .i64 rm, .int .i64 ra, .int .i64 imm, .int .i64 cond, .bool wide] ∧ MacAt (w.alloc (.cells #[.int .i64 op, .int .i64 rd, .int .i64 rn, .int .i64 rm, .int .i64 ra, .int .i64 imm, .int .i64 cond, .bool wide] 123)) b l s hd m ∧ Below w.heap.size w (w.alloc (.cells #[.int .i64 op, .int .i64 rd, .int .i64 rn, .int .i64 rm, .int .i64 ra, .int .i64 imm, .int .i64 cond, .bool wide] 123))) :=
  Lib.hid ⟨Blk.new' _ _ _ _ rfl rfl, hm.out.alloc _, (Below.refl _ _).alloc (Nat.le_refl _) _⟩
 clear hm
 obtain ⟨V, hV⟩ : ∃ V, w.alloc (.cells #[.int .i64 op, .int .i64 rd, .int .i64 rn, .int .i64 rm, .int .i64 ra, .int .i64 imm, .int .i64 cond, .bool wide] 123) = V := ⟨_, rfl⟩
 rw [hV] at H0
 go_enter Tryz.func85, Tryz.ntmps85
 go_wp2
 clear hV
 obtain ⟨n, hn⟩ : ∃ n, w.heap.size = n := ⟨_, rfl⟩
 rw [hn] at H0 ⊢
 have HI := Lib.hid (fun (W : World) (hb : Below V.heap.size V W) => H0.out.1.kept hb)
 have HM := Lib.hid (fun (W : World) (hb : Below V.heap.size V W) => H0.out.2.1.kept hb)
 have hz := H0.out.2.2.size
 rw [hn] at hz
 have HB := Lib.hid (fun (W : World) (hb : Below V.heap.size V W) => H0.out.2.2.trans (hb.mono hz))
 have HZ := Lib.hid hz
 clear hz
 clear H0
 refine wp_region_held_drew (S := fun wx => Below V.heap.size V wx) (by kernel_rfl) ((Below.refl _ _).drew) (fun hHeld => ?_)
 refine wpAnyH_take (i := 0) (v := ?_) rfl (by kernel_rfl) (by kernel_rfl) (by kernel_rfl) (fun _ _ _ h => h) (Or.inl ⟨by rfl, ?_⟩) (by assumption) ?_
 rotate_left
 ·intro w hSw
  (try dsimp only at hSw)
  go_simp
  (try with_reducible rfl)
 (try simp only [Act.put, List.setIfInBounds_toArray, List.set_cons_zero, List.set_cons_succ, List.getElem_toArray, List.getElem_cons_succ, List.getElem_cons_zero])
 refine wpAnyH_take (i := 1) (v := ?_) rfl (by kernel_rfl) (by kernel_rfl) (by kernel_rfl) (fun _ _ _ h => h) (Or.inl ⟨by rfl, ?_⟩) (by assumption) ?_
 rotate_left
 ·intro w hSw
  (try dsimp only at hSw)
  go_simp
  (try with_reducible rfl)
 (try simp only [Act.put, List.setIfInBounds_toArray, List.set_cons_zero, List.set_cons_succ, List.getElem_toArray, List.getElem_cons_succ, List.getElem_cons_zero])
 refine wpAnyH_take (i := 2) (v := ?_) rfl (by kernel_rfl) (by kernel_rfl) (by kernel_rfl) (fun _ _ _ h => h) (Or.inl ⟨by rfl, ?_⟩) (by assumption) ?_
 rotate_left
 ·intro w hSw
  (try dsimp only at hSw)
  go_simp
  (try with_reducible rfl)
 (try simp only [Act.put, List.setIfInBounds_toArray, List.set_cons_zero, List.set_cons_succ, List.getElem_toArray, List.getElem_cons_succ, List.getElem_cons_zero])
 refine wpAnyH_take (i := 3) (v := _) rfl (by kernel_rfl) (by kernel_rfl) (by kernel_rfl) (fun _ _ _ h => h) (yieldsIf_load_mac (by rfl) rfl HM.out) (by assumption) ?_
 (try simp only [Act.put, List.setIfInBounds_toArray, List.set_cons_zero, List.set_cons_succ, List.getElem_toArray, List.getElem_cons_succ, List.getElem_cons_zero])
 refine wpAnyH_take (i := 4) (v := _) rfl (by kernel_rfl) (by kernel_rfl) (by kernel_rfl) (fun _ _ _ h => h) (yieldsIf_load_blk insT (by rfl) rfl HI.out) (by assumption) ?_
 (try simp only [Act.put, List.setIfInBounds_toArray, List.set_cons_zero, List.set_cons_succ, List.getElem_toArray, List.getElem_cons_succ, List.getElem_cons_zero])
 refine wpAnyH_ready (rs := [5, 9]) (by kernel_rfl) (by simp) ?_
 refine AllReadyH.cons rfl (fun K hK => ?_) (AllReadyH.cons rfl (fun K hK => ?_) AllReadyH.nil)
 ·go_simp
  go_at_call 112; refine (C1.out _).mono ?_; rintro e w1 ⟨rfl, hb1⟩
  have hc1 : Below V.heap.size V w1 := hHeld.trans (hb1.mono hHeld.size)
  clear hb1 hHeld
  refine hK.out _ _ hc1 (fun _ => ?_)
  clear hK K
  (try simp only [Act.put, List.setIfInBounds_toArray, List.set_cons_zero, List.set_cons_succ, List.getElem_toArray, List.getElem_cons_succ, List.getElem_cons_zero])
  refine wpAnyH_take (i := 6) (v := ?_) rfl (by kernel_rfl) (by kernel_rfl) (by kernel_rfl) (fun _ _ _ h => h) (Or.inl ⟨by rfl, ?_⟩) (by assumption) ?_
  rotate_left
  ·intro w hSw
   (try dsimp only at hSw)
   go_simp
   (try with_reducible rfl)
  (try simp only [Act.put, List.setIfInBounds_toArray, List.set_cons_zero, List.set_cons_succ, List.getElem_toArray, List.getElem_cons_succ, List.getElem_cons_zero])
  refine wpAnyH_take (i := 7) (v := ?_) rfl (by kernel_rfl) (by kernel_rfl) (by kernel_rfl) (fun _ _ _ h => h) (Or.inl ⟨by rfl, ?_⟩) (by assumption) ?_
  rotate_left
  ·intro w hSw
   (try dsimp only at hSw)
   go_simp
   (try with_reducible rfl)
  (try simp only [Act.put, List.setIfInBounds_toArray, List.set_cons_zero, List.set_cons_succ, List.getElem_toArray, List.getElem_cons_succ, List.getElem_cons_zero])
  refine wpAnyH_take (i := 8) (v := ?_) rfl (by kernel_rfl) (by kernel_rfl) (by kernel_rfl) (fun _ _ _ h => h) (Or.inl ⟨by rfl, ?_⟩) (by assumption) ?_
  rotate_left
  ·intro w hSw
   (try dsimp only at hSw)
   go_simp
   (try with_reducible rfl)
  (try simp only [Act.put, List.setIfInBounds_toArray, List.set_cons_zero, List.set_cons_succ, List.getElem_toArray, List.getElem_cons_succ, List.getElem_cons_zero])
  refine wpAnyH_ready (rs := [9]) (by kernel_rfl) (by simp) ?_
  refine AllReadyH.cons rfl (fun K hK => ?_) AllReadyH.nil
  go_simp
  refine hK.out _ _ (hc1.alloc hc1.size _) (fun _ => ?_)
  clear hK K
  (try simp only [Act.put, List.setIfInBounds_toArray, List.set_cons_zero, List.set_cons_succ, List.getElem_toArray, List.getElem_cons_succ, List.getElem_cons_zero])
  refine wpAnyH_ready (rs := [10]) (by kernel_rfl) (by simp) ?_
  refine AllReadyH.cons rfl (fun K hK => ?_) AllReadyH.nil
  refine wp_store_blk accT (Blk.new' w1 137 #[.int .i64 0, .int .i64 0, .int .i64 0, .bool false] _ rfl rfl) (fitsA ad sz vl wr) ⟨rfl, rfl⟩ ?_
  have hc5 := below_setRow (hc1.alloc hc1.size (.cells #[.int .i64 0, .int .i64 0, .int .i64 0, .bool false] 137)) (g := w1.heap.size) hc1.size #[.int .i64 ad, .int .i64 sz, .int .i64 vl, .bool wr]
  refine hK.out _ _ hc5 (fun _ => ?_)
  clear hK K
  (try simp only [Act.put, List.setIfInBounds_toArray, List.set_cons_zero, List.set_cons_succ, List.getElem_toArray, List.getElem_cons_succ, List.getElem_cons_zero])
  refine wpAnyH_take (i := 11) (v := ?_) rfl (by kernel_rfl) (by kernel_rfl) (by kernel_rfl) (fun _ _ _ h => h) (Or.inl ⟨by rfl, ?_⟩) (by assumption) ?_
  rotate_left
  ·intro w hSw
   (try dsimp only at hSw)
   go_simp
   (try with_reducible rfl)
  (try simp only [Act.put, List.setIfInBounds_toArray, List.set_cons_zero, List.set_cons_succ, List.getElem_toArray, List.getElem_cons_succ, List.getElem_cons_zero])
  refine wpAnyH_done (by kernel_rfl) ?_ _
  have HC5 := Lib.hid ((Blk.new' w1 137 #[.int .i64 0, .int .i64 0, .int .i64 0, .bool false] w1.heap.size rfl rfl : Blk _ _ _ 4 _).row (fitsA ad sz vl wr).size)
  have hcz := hc1.size
  clear hc1
  generalize w1.heap.size = c at *
  have HM5 := Lib.hid (HM.out _ hc5)
  have HB5 := Lib.hid (HB.out _ hc5)
  have HN5 := Lib.hid (MacAt.newer (HM.out _ (Below.refl _ _)) hcz).1
  try generalize World.setRow _ _ _ = U at *
  clear hc5 hcz HI HM HB HZ C1
  cases B
  ·go_wp2
   exact bodyPost_ret (v := .tuple #[.int .i64 0, .int .i64 0]) (by simp [results, Tryz.results85, go_sem]) rfl (Mc.accPost_n ⟨rfl, HM5.out, Rest.of (hn ▸ HB5.out)⟩)
  ·by_cases hE : E = 0
   ·subst hE
    go_wp2_with (first | (go_at_call 113; refine (CM.out _ HM5.out).mono ?_; rintro e w9 ⟨rfl, hM9, hR9⟩; have HC9 := HC5.out.rest hR9 (fun h => HN5.out (.inr h)); have c9 := HC9.cell 0; have HM9 := Lib.hid hM9; have HR9 := Lib.hid hR9; clear hM9 hR9 HC9) | ((with_reducible refine wpList_load_blk accT HC5.out ?_ ?_); exact rfl))
    exact bodyPost_ret (v := .tuple #[.int .i64 ad, .int .i64 L]) (by simp [results, Tryz.results85, go_sem]) rfl (Mc.accPost_y rfl ⟨rfl, HM9.out, (Rest.of (hn ▸ HB5.out)).trans HR9.out⟩)
   ·have hE' : (E != 0) = true := by simpa using hE
    go_wp2_with (first | (go_at_call 113; refine (CM.out _ HM5.out).mono ?_; rintro e w9 ⟨rfl, hM9, hR9⟩; have HC9 := HC5.out.rest hR9 (fun h => HN5.out (.inr h)); have c9 := HC9.cell 0; have HM9 := Lib.hid hM9; have HR9 := Lib.hid hR9; clear hM9 hR9 HC9) | ((with_reducible refine wpList_load_blk accT HC5.out ?_ ?_); exact rfl))
    exact ⟨rfl, Mc.accPost_e hE ⟨rfl, HM9.out, (Rest.of (hn ▸ HB5.out)).trans HR9.out⟩⟩
 ·go_simp
  have hc0 := hHeld.alloc hHeld.size (.cells #[.int .i64 0, .int .i64 0, .int .i64 0, .bool false] 137)
  refine hK.out _ _ hc0 (fun _ => ?_)
  clear hK K
  (try simp only [Act.put, List.setIfInBounds_toArray, List.set_cons_zero, List.set_cons_succ, List.getElem_toArray, List.getElem_cons_succ, List.getElem_cons_zero])
  have HC0 := Lib.hid (Blk.new' V.drew 137 #[.int .i64 0, .int .i64 0, .int .i64 0, .bool false] V.heap.size rfl rfl : Blk _ _ _ 4 _)
  refine wpAnyH_ready (rs := [5]) (by kernel_rfl) (by simp) ?_
  refine AllReadyH.cons rfl (fun K hK => ?_) AllReadyH.nil
  go_simp
  go_at_call 112; refine (C1.out _).mono ?_; rintro e w1 ⟨rfl, hb1⟩
  have hc1 : Below V.heap.size V w1 := hc0.trans (hb1.mono hc0.size)
  have HC1 := Lib.hid (HC0.out.kept hb1)
  clear hb1 hHeld hc0 HC0
  refine hK.out _ _ hc1 (fun _ => ?_)
  clear hK K
  (try simp only [Act.put, List.setIfInBounds_toArray, List.set_cons_zero, List.set_cons_succ, List.getElem_toArray, List.getElem_cons_succ, List.getElem_cons_zero])
  refine wpAnyH_take (i := 6) (v := ?_) rfl (by kernel_rfl) (by kernel_rfl) (by kernel_rfl) (fun _ _ _ h => h) (Or.inl ⟨by rfl, ?_⟩) (by assumption) ?_
  rotate_left
  ·intro w hSw
   (try dsimp only at hSw)
   go_simp
   (try with_reducible rfl)
  (try simp only [Act.put, List.setIfInBounds_toArray, List.set_cons_zero, List.set_cons_succ, List.getElem_toArray, List.getElem_cons_succ, List.getElem_cons_zero])
  refine wpAnyH_take (i := 7) (v := ?_) rfl (by kernel_rfl) (by kernel_rfl) (by kernel_rfl) (fun _ _ _ h => h) (Or.inl ⟨by rfl, ?_⟩) (by assumption) ?_
  rotate_left
  ·intro w hSw
   (try dsimp only at hSw)
   go_simp
   (try with_reducible rfl)
  (try simp only [Act.put, List.setIfInBounds_toArray, List.set_cons_zero, List.set_cons_succ, List.getElem_toArray, List.getElem_cons_succ, List.getElem_cons_zero])
  refine wpAnyH_take (i := 8) (v := ?_) rfl (by kernel_rfl) (by kernel_rfl) (by kernel_rfl) (fun _ _ _ h => h) (Or.inl ⟨by rfl, ?_⟩) (by assumption) ?_
  rotate_left
  ·intro w hSw
   (try dsimp only at hSw)
   go_simp
   (try with_reducible rfl)
  (try simp only [Act.put, List.setIfInBounds_toArray, List.set_cons_zero, List.set_cons_succ, List.getElem_toArray, List.getElem_cons_succ, List.getElem_cons_zero])
  refine wpAnyH_ready (rs := [10]) (by kernel_rfl) (by simp) ?_
  refine AllReadyH.cons rfl (fun K hK => ?_) AllReadyH.nil
  refine wp_store_blk accT HC1.out (fitsA ad sz vl wr) ⟨rfl, rfl⟩ ?_
  have hc5 := below_setRow hc1 (g := V.heap.size) (Nat.le_refl _) #[.int .i64 ad, .int .i64 sz, .int .i64 vl, .bool wr]
  refine hK.out _ _ hc5 (fun _ => ?_)
  clear hK K
  (try simp only [Act.put, List.setIfInBounds_toArray, List.set_cons_zero, List.set_cons_succ, List.getElem_toArray, List.getElem_cons_succ, List.getElem_cons_zero])
  refine wpAnyH_take (i := 11) (v := ?_) rfl (by kernel_rfl) (by kernel_rfl) (by kernel_rfl) (fun _ _ _ h => h) (Or.inl ⟨by rfl, ?_⟩) (by assumption) ?_
  rotate_left
  ·intro w hSw
   (try dsimp only at hSw)
   go_simp
   (try with_reducible rfl)
  (try simp only [Act.put, List.setIfInBounds_toArray, List.set_cons_zero, List.set_cons_succ, List.getElem_toArray, List.getElem_cons_succ, List.getElem_cons_zero])
  refine wpAnyH_done (by kernel_rfl) ?_ _
  have HC5 := Lib.hid (HC1.out.row (fitsA ad sz vl wr).size)
  clear hc1 HC1
  generalize World.setRow _ _ _ = U at *
  obtain ⟨c, hcc⟩ : ∃ c, V.heap.size = c := ⟨_, rfl⟩
  have hcz : V.heap.size ≤ c := by omega
  rw [hcc] at HC5 ⊢
  clear hcc
  have HM5 := Lib.hid (HM.out _ hc5)
  have HB5 := Lib.hid (HB.out _ hc5)
  have HN5 := Lib.hid (MacAt.newer (HM.out _ (Below.refl _ _)) hcz).1
  try generalize World.setRow _ _ _ = U at *
  clear hc5 hcz HI HM HB HZ C1
  cases B
  ·go_wp2
   exact bodyPost_ret (v := .tuple #[.int .i64 0, .int .i64 0]) (by simp [results, Tryz.results85, go_sem]) rfl (Mc.accPost_n ⟨rfl, HM5.out, Rest.of (hn ▸ HB5.out)⟩)
  ·by_cases hE : E = 0
   ·subst hE
    go_wp2_with (first | (go_at_call 113; refine (CM.out _ HM5.out).mono ?_; rintro e w9 ⟨rfl, hM9, hR9⟩; have HC9 := HC5.out.rest hR9 (fun h => HN5.out (.inr h)); have c9 := HC9.cell 0; have HM9 := Lib.hid hM9; have HR9 := Lib.hid hR9; clear hM9 hR9 HC9) | ((with_reducible refine wpList_load_blk accT HC5.out ?_ ?_); exact rfl))
    exact bodyPost_ret (v := .tuple #[.int .i64 ad, .int .i64 L]) (by simp [results, Tryz.results85, go_sem]) rfl (Mc.accPost_y rfl ⟨rfl, HM9.out, (Rest.of (hn ▸ HB5.out)).trans HR9.out⟩)
   ·have hE' : (E != 0) = true := by simpa using hE
    go_wp2_with (first | (go_at_call 113; refine (CM.out _ HM5.out).mono ?_; rintro e w9 ⟨rfl, hM9, hR9⟩; have HC9 := HC5.out.rest hR9 (fun h => HN5.out (.inr h)); have c9 := HC9.cell 0; have HM9 := Lib.hid hM9; have HR9 := Lib.hid hR9; clear hM9 hR9 HC9) | ((with_reducible refine wpList_load_blk accT HC5.out ?_ ?_); exact rfl))
    exact ⟨rfl, Mc.accPost_e hE ⟨rfl, HM9.out, (Rest.of (hn ▸ HB5.out)).trans HR9.out⟩⟩
end Go.Proofs.YthciobjklhkkcaaGreat
