/-
 Package machine: what Run returns, where it runs.
-/
import Derived.Test.YthciobjklhkkcaaGreatMachX
import Derived.Test.YthciobjklhkkcaaGreatMachQ
namespace Go.Proofs.YthciobjklhkkcaaGreat
open Go.ChangeShapes Go.WideShapes Go.ChangeAt Go.RowKit Go.Shelf
set_option maxHeartbeats 8000000
set_option maxRecDepth 10000
set_option linter.unusedVariables false
set_option linter.unusedSimpArgs false
attribute [local go_sem] Oper.semAt_some

theorem wrap_small (x : Int) (h0 : 0 ≤ x) (h1 : x < 9223372036854775808) : wrap64 x = x := by unfold wrap64; omega
theorem round_nums {L bud : Nat} {C c H : Int} (h1 : L + 1 ≤ bud) (hb : bud ≤ 67108864) (hC : 0 ≤ C ∧ C ≤ 12 * (L : Int)) (hc : 0 ≤ c ∧ c ≤ 12) (hH : 0 ≤ H ∧ H ≤ (L : Int)) : wrap64 ((L : Int) + 1) = (L : Int) + 1 ∧ wrap64 (C + c) = C + c ∧ wrap64 (H + 1) = H + 1 :=
 ⟨wrap_small _ (by omega) (by omega), wrap_small _ (by omega) (by omega), wrap_small _ (by omega) (by omega)⟩
theorem run_y (n : Nat) (hn : 3 ≤ n) (img inp : ByteArray) (kind sn reg bit : Int) (bud : Nat) (s : My.St) (hd : Int) (m0 : Mc.M) (w : World) (hbud : bud ≤ 67108864) (hh : 0 ≤ hd) (hp : 0 ≤ m0.st.pc)
  (CN : Hid (∀ W : World, Calls Tryz.prog 17 #[.string img, .string inp] W fun e w' => ∃ b lo, e = .returned (.tuple #[.pointer (some ⟨b, 0, none⟩), .int .i64 0]) ∧ MacAt w' b lo s hd m0 ∧ (∀ k, Mc.mine b lo k → W.heap.size ≤ k) ∧ Below W.heap.size W w'))
  (CK : Hid (∀ W : World, Calls Tryz.prog 11 #[.agg #[.int .i64 kind, .int .i64 sn, .int .i64 reg, .int .i64 bit]] W fun e w' => e = .returned (.int .i64 0) ∧ Below W.heap.size W w')) :
  CallsIn Fence.wide n Tryz.prog 9 #[.string img, .string inp, .agg #[.int .i64 kind, .int .i64 sn, .int .i64 reg, .int .i64 bit], .int .i64 (bud : Int)] w fun e w' => e = .returned (.tuple #[.agg (Mc.resOf s hd (Mc.go (Mc.xOf s hd) ⟨kind, sn, reg, bit⟩ bud 0 m0).1 (Mc.go (Mc.xOf s hd) ⟨kind, sn, reg, bit⟩ bud 0 m0).2.1), .int .i64 0]) ∧ Below w.heap.size w w' := by
 obtain ⟨xs, hxs⟩ : ∃ xs, (Mc.go (Mc.xOf s hd) ⟨kind, sn, reg, bit⟩ bud 0 m0).2.1 = xs := ⟨_, rfl⟩
 obtain ⟨mF, hmF⟩ : ∃ mF, (Mc.go (Mc.xOf s hd) ⟨kind, sn, reg, bit⟩ bud 0 m0).1 = mF := ⟨_, rfl⟩
 rw [hxs, hmF]
 obtain ⟨R, hR⟩ : ∃ R, Mc.resOf s hd mF xs = R := ⟨_, rfl⟩
 rw [hR]
 have HXS := Lib.hid hxs
 have HMF := Lib.hid hmF
 have HR0 := Lib.hid hR
 clear hxs hmF hR
 have h1 : 1 ≤ n := by omega
 have hb1 : ¬ (bud : Int) < 0 := by omega
 have hb2 : ¬ (67108864 : Int) < (bud : Int) := by omega
 have hb3 : (bud : Int) ≤ 67108864 := by omega
 obtain ⟨W2, hW⟩ : ∃ W2, (w.alloc (.cells #[.int .i64 kind, .int .i64 sn, .int .i64 reg, .int .i64 bit] 23)).alloc (.cells zeroR 27) = W2 := ⟨_, rfl⟩
 have H2 := Lib.hid (run_start w kind sn reg bit hW)
 refine callsIn_of_wp_marks Tryz.func9 rfl trivial ?_ rfl
 simp only [Tryz.ntmps9, List.size_toArray, List.length_cons, List.length_nil, Nat.reduceAdd, Nat.reduceSub, Array.replicate_succ, Array.replicate_zero, List.push_toArray, List.append_toArray, List.nil_append, List.cons_append]
 gi_wp2_with (first | (refine ⟨trivial, ?_⟩; gi_at_call 17; refine (callsIn_wide.2 (CN.out _)).mono ?_; rintro e w1 ⟨b, lo, rfl, hM1, hmine, hb1⟩; have H1 := Lib.hid (rn_start H2.out hM1 hmine hb1); clear hM1 hmine hb1) | ((with_reducible refine wpListIn_load_blk faultT H1.out.flt ?_ ?_); exact rfl) | (refine ⟨trivial, ?_⟩; gi_at_call 11; refine (callsIn_wide.2 (CK.out _)).mono ?_; rintro e w3 ⟨rfl, hb3⟩; have H3 := Lib.hid (H1.out.kept hb3); have H4 := Lib.hid (H3.out.kept ((Below.refl w3.heap.size w3).alloc (Nat.le_refl _) (.cells zeroR 27))); have cm4 := H4.out.cm; have HD4 := Lib.hid (Blk.new' w3 27 zeroR w3.heap.size rfl rfl : Blk _ _ _ 9 _); clear hb3) | ((with_reducible refine wpListIn_load_blk faultT H4.out.flt ?_ ?_); exact rfl) | (refine ⟨trivial, ?_⟩; gi_at_call 24; refine (steps_in _ _ _ _ _ _ _ _).mono ?_; rintro e w5 ⟨rfl, rfl⟩))
 have hoff : ∀ k, w3.heap.size ≤ k → Mc.off b lo k := fun k hk => H3.out.mac.newer hk
 have hc3 : w1.heap.size < w3.heap.size := cell_lt H3.out.cm
 clear hb1 hb2 hb3 hW H2 CN CK H1 H3
 have h5 := H4.out.kept (W' := (((w3.alloc (.cells zeroR 27)).alloc (.cells #[.pointer (some ⟨b, 0, none⟩)] 45)).alloc (.cells #[.int .i64 kind, .int .i64 sn, .int .i64 reg, .int .i64 bit] 23)).alloc (.cells #[.int .i64 (bud : Int)] 3)) ((((Below.refl _ _).alloc (Nat.le_refl _) _).alloc (by simp only [World.size_alloc]; omega) _).alloc (by simp only [World.size_alloc]; omega) _)
 have hD5 := ((HD4.out.alloc (.cells #[.pointer (some ⟨b, 0, none⟩)] 45)).alloc (.cells #[.int .i64 kind, .int .i64 sn, .int .i64 reg, .int .i64 bit] 23)).alloc (.cells #[.int .i64 (bud : Int)] 3)
 have hdO := H4.out
 have hI3 : It3 ((((w3.alloc (.cells zeroR 27)).alloc (.cells #[.pointer (some ⟨b, 0, none⟩)] 45)).alloc (.cells #[.int .i64 kind, .int .i64 sn, .int .i64 reg, .int .i64 bit] 23)).alloc (.cells #[.int .i64 (bud : Int)] 3)) (w3.heap.size + 1 + 1 + 1) (w3.heap.size + 1 + 1) (w3.heap.size + 1) b ⟨kind, sn, reg, bit⟩ bud := by
  refine ⟨?_, ?_, ?_, ?_, ?_, ?_⟩ <;> simp [go_sem]
 have hsz : ((((w3.alloc (.cells zeroR 27)).alloc (.cells #[.pointer (some ⟨b, 0, none⟩)] 45)).alloc (.cells #[.int .i64 kind, .int .i64 sn, .int .i64 reg, .int .i64 bit] 23)).alloc (.cells #[.int .i64 (bud : Int)] 3)).heap.size = w3.heap.size + 1 + 1 + 1 + 1 := by simp
 obtain ⟨W0, hW0⟩ : ∃ W0, ((((w3.alloc (.cells zeroR 27)).alloc (.cells #[.pointer (some ⟨b, 0, none⟩)] 45)).alloc (.cells #[.int .i64 kind, .int .i64 sn, .int .i64 reg, .int .i64 bit] 23)).alloc (.cells #[.int .i64 (bud : Int)] 3)) = W0 := ⟨_, rfl⟩
 rw [hW0] at h5 hD5 hI3 hsz ⊢
 clear hW0 cm4 HD4
 have hM0 := h5.mac
 have hlt : w3.heap.size < (w3.alloc (.cells zeroR 27)).heap.size := by simp
 have hl5 := h5.lt
 have q : Irs w w.heap.size w1.heap.size w3.heap.size b lo := ⟨h5.off, hoff _ (Nat.le_refl _), fun hk => by have := h5.mine _ hk; omega, ⟨by omega, by omega, by omega⟩, h5.mine⟩
 have hI0 : Ir w w.heap.size w1.heap.size w3.heap.size b lo s hd (rcOf hd []) W0 := ⟨⟨_, hM0⟩, h5.cm, hD5, h5.out, h5.bel⟩
 have hZ : ∀ k, k = W0.heap.size ∨ k = W0.heap.size + 1 → Mc.off b lo k ∧ k ≠ w1.heap.size ∧ k ≠ w3.heap.size ∧ k ≠ w.heap.size + 1 ∧ w.heap.size ≤ k := fun k hk => ⟨hoff k (by omega), by omega, by omega, by omega, by omega⟩
 have hcy := Mc.go_cyc (Mc.xOf s hd) ⟨kind, sn, reg, bit⟩ bud 0 m0
 have hln := Mc.go_len (Mc.xOf s hd) ⟨kind, sn, reg, bit⟩ bud 0 m0
 have hstep := fun (J : List Mc.Ev → World → Prop) (W : World) (l : Nat) (hb : Below W0.heap.size W0 W) (hG : Goes Mc.Ev Tryz.prog (n - 1 - 1) l evA (Mc.ItR b lo s hd) (Rest (fun k => k = w3.heap.size ∨ k = W0.heap.size ∨ k = W0.heap.size + 1)) (Mc.go (Mc.xOf s hd) ⟨kind, sn, reg, bit⟩ bud 0 m0).2.1 J) (hJ : J [] W) => steps1_in (n - 1) l (by omega) b lo s hd m0 ⟨kind, sn, reg, bit⟩ bud (w3.heap.size + 1 + 1 + 1) (w3.heap.size + 1 + 1) (w3.heap.size + 1) _ J W hbud hh hp (hM0.kept hb) (hI3.kept hb) (fun k hk => ⟨hoff k (by omega), by omega, by omega, by omega⟩) ⟨hoff _ (by omega), hoff _ (by omega), hoff _ (by omega)⟩ hG hJ
 rw [HXS.out] at hcy hln
 rw [HXS.out, HMF.out] at hstep
 clear HXS HMF
 generalize Value.bool (decide ((bud : Int) < 0) || decide ((67108864 : Int) < (bud : Int))) = y1
 generalize Value.bool (decide ((67108864 : Int) < (bud : Int))) = y2
 generalize Value.bool (decide ((bud : Int) < 0)) = y3
 refine wpIn_range9 (encs := evA) (gf := 40) xs (fun pre W => Ir w w.heap.size w1.heap.size w3.heap.size b lo s hd (rcOf hd pre) W) (Mc.ItR b lo s hd) (Rest (fun k => k = w3.heap.size ∨ k = W0.heap.size ∨ k = W0.heap.size + 1)) (fun W => MacAt W b lo s hd mF) 13 (fun x W => W.alloc (.cells (Mc.evC x) 49)) h1 rfl (enters_of Tryz.func40 (by kernel_rfl) rfl) (fun _ => rfl)
  (fun X Y k hi hk h1 h2 => hi.1.block k hk (hoff k (by omega)).1)
  (fun pre X Y h hi => h.it q hi)
  (fun pre X Y h hr => h.rest hr hZ)
  (fun X Y Z hk hr => hk.trans (hr.mono fun k h => .inr h))
  (fun X Y h hr => h.far hr (fun k hk => (hZ k hk).1))
  (fun x W => (Below.refl _ _).alloc (Nat.le_refl _) _)
  (fun J W hb hl hG hJ => hstep J W _ hb hG hJ)
  hI0 ?_ ?_ ?_
 ·intro x W K hKK
  obtain ⟨k', p', a', c'⟩ := x
  dsimp only [evA, Mc.evC] at hKK ⊢
  gi_wp2
  refine Eq.mp (congrArg (fun z => K z (W.alloc (.cells #[.int .i64 k', .int .i64 p', .int .i64 a', .int .i64 c'] 49))) ?_) hKK
  kernel_rfl
 ·intro pre x W W2 hi hpre hl hr
  have hxc := hcy x (hpre.subset (by simp))
  have hcp := Mc.cyc_bd pre (fun v hv => hcy v (hpre.subset (by simp [hv])))
  have hhp := Mc.hnd_bd hd pre
  have hpl : pre.length + 1 ≤ bud := by have := hpre.length_le; simp at this; omega
  have hca := Mc.cyc_app pre x
  have hha := Mc.hnd_app hd pre x
  have hla : ((pre ++ [x]).length : Int) = (pre.length : Int) + 1 := by simp
  have hkp : ∀ V, Rest (fun k => k = w3.heap.size) W2 V → Rest (fun k => k = w3.heap.size ∨ k = W0.heap.size ∨ k = W0.heap.size + 1) W V := fun V hV => (Rest.of ((Below.refl _ _).alloc (Nat.le_refl _) _)).trans ((hr.mono fun k h => .inr (.inr h)).trans (hV.mono fun k h => .inl h))
  have hI2 := (hi.rest (Z := fun _ => False) (Rest.of ((Below.refl W.heap.size W).alloc (Nat.le_refl _) (.cells (Mc.evC x) 49))) (fun _ h => h.elim)).rest hr (fun k hk => hZ k (.inr hk))
  obtain ⟨k', p', a', c'⟩ := x
  have hE : Blk W2 W.heap.size 49 4 #[.int .i64 k', .int .i64 p', .int .i64 a', .int .i64 c'] := (Blk.new' W 49 #[.int .i64 k', .int .i64 p', .int .i64 a', .int .i64 c'] W.heap.size rfl rfl : Blk _ _ _ 4 _).rest hr (by show ¬ W.heap.size = W0.heap.size + 1; omega)
  have hrc : rcOf hd (pre ++ [⟨k', p', a', c'⟩]) = resC false ((pre.length : Int) + 1) (Mc.cyc pre + c') (Mc.hnd hd pre + (if p' = hd then 1 else 0)) 0 0 ⟨#[]⟩ ⟨#[]⟩ ⟨#[]⟩ := by
   show resC false _ _ _ 0 0 _ _ _ = _
   rw [hca, hha, hla]
  have hrc0 : rcOf hd pre = resC false (pre.length : Int) (Mc.cyc pre) (Mc.hnd hd pre) 0 0 ⟨#[]⟩ ⟨#[]⟩ ⟨#[]⟩ := rfl
  rw [hrc]
  rw [hrc0] at hI2
  dsimp only at hxc
  obtain ⟨hw1, hw2, hw3⟩ := round_nums hpl hbud hcp hxc hhp
  have hgd : W.heap.size ≠ w3.heap.size := by omega
  have hgd' : w3.heap.size ≠ W.heap.size := by omega
  have hz2 : W0.heap.size + 1 < W2.heap.size := by have := hr.size; simp only [World.size_alloc] at this; omega
  have hdz : w3.heap.size ≠ W0.heap.size ∧ w3.heap.size ≠ W0.heap.size + 1 := ⟨by omega, by omega⟩
  have HZ2 := Lib.hid hz2
  have HW1 := Lib.hid hw1
  have HW2 := Lib.hid hw2
  have HW3 := Lib.hid hw3
  clear hw1 hw2 hw3 hz2
  clear hca hha hla hcp hhp hxc hpl hrc hrc0 hcy hln hstep hi hr hpre hI0 hM0 hI3 hD5 h5 hsz hdO
  generalize (pre.length : Int) = L at *
  generalize Mc.cyc pre = C at *
  generalize Mc.hnd hd pre = H at *
  have J1 := hI2.set q 1 (.int .i64 (wrap64 (L + 1))) (rc' := resC false (wrap64 (L + 1)) C H 0 0 ⟨#[]⟩ ⟨#[]⟩ ⟨#[]⟩) rfl
  have E1 := hE.other ⟨w3.heap.size, 1, none⟩ (.int .i64 (wrap64 (L + 1))) hgd
  have J2 := J1.set q 2 (.int .i64 (wrap64 (C + c'))) (rc' := resC false (wrap64 (L + 1)) (wrap64 (C + c')) H 0 0 ⟨#[]⟩ ⟨#[]⟩ ⟨#[]⟩) rfl
  have E2 := E1.other ⟨w3.heap.size, 2, none⟩ (.int .i64 (wrap64 (C + c'))) hgd
  have R2 := (rest_setCell (X := fun k => k = w3.heap.size) W2 ⟨w3.heap.size, 1, none⟩ (.int .i64 (wrap64 (L + 1))) rfl).trans (rest_setCell _ ⟨w3.heap.size, 2, none⟩ (.int .i64 (wrap64 (C + c'))) rfl)
  have u1 := hI2.res.cell 1
  have z1 := hI2.res.open 1
  have u2 := J1.res.cell 2
  have z2 := J1.res.open 2
  have u3 := E1.cell 3
  have HJ2 := Lib.hid J2
  have HE2 := Lib.hid E2
  have HR2 := Lib.hid R2
  have v1 : World.cell? _ ⟨W.heap.size, 1, none⟩ = some (.int .i64 p') := E2.cell 1
  have v2 := J2.cm
  have v3 := J2.handler
  clear J1 E1 J2 E2 R2 hI2 hE
  have HD2 := HJ2
  have HRD := HR2
  clear HJ2 HE2 HR2
  dsimp only [evA, Mc.evC]
  by_cases hpd : p' = hd
  ·have hpb : (p' == hd) = true := by simpa using hpd
   gi_wp2
   refine held_round' (S := fun wx => wx.cell? ⟨W.heap.size, 1, none⟩ = some (.int .i64 p') ∧ wx.cell? ⟨w1.heap.size, 0, none⟩ = some (.pointer (some ⟨b, 0, none⟩)) ∧ wx.cell? ⟨b, 1, none⟩ = some (.int .i64 hd)) (by kernel_rfl) (by kernel_rfl) ⟨(cell_drew_own _ _).trans v1, (cell_drew_own _ _).trans v2, (cell_drew_own _ _).trans v3⟩ (fun hHeld => ?_)
   refine wpAnyH_take (i := 0) (v := ?_) rfl (by kernel_rfl) (by kernel_rfl) (by kernel_rfl) (fun _ _ _ h => nomatch h.1) (Or.inl ⟨by rfl, ?_⟩) (by assumption) ?_
   rotate_left
   ·intro wx hSw
    (try dsimp only at hSw)
    go_simp
    (try with_reducible rfl)
   (try simp only [Act.put, List.setIfInBounds_toArray, List.set_cons_zero, List.set_cons_succ, List.getElem_toArray, List.getElem_cons_succ, List.getElem_cons_zero])
   refine wpAnyH_take (i := 1) (v := ?_) rfl (by kernel_rfl) (by kernel_rfl) (by kernel_rfl) (fun _ _ _ h => nomatch h.1) (Or.inl ⟨by rfl, ?_⟩) (by assumption) ?_
   rotate_left
   ·intro wx hSw
    (try dsimp only at hSw)
    go_simp
    (try with_reducible rfl)
   (try simp only [Act.put, List.setIfInBounds_toArray, List.set_cons_zero, List.set_cons_succ, List.getElem_toArray, List.getElem_cons_succ, List.getElem_cons_zero])
   refine wpAnyH_take (i := 2) (v := ?_) rfl (by kernel_rfl) (by kernel_rfl) (by kernel_rfl) (fun _ _ _ h => nomatch h.1) (Or.inl ⟨by rfl, ?_⟩) (by assumption) ?_
   rotate_left
   ·intro wx hSw
    (try dsimp only at hSw)
    go_simp
    (try with_reducible rfl)
   (try simp only [Act.put, List.setIfInBounds_toArray, List.set_cons_zero, List.set_cons_succ, List.getElem_toArray, List.getElem_cons_succ, List.getElem_cons_zero])
   refine wpAnyH_take (i := 3) (v := ?_) rfl (by kernel_rfl) (by kernel_rfl) (by kernel_rfl) (fun _ _ _ h => nomatch h.1) (Or.inl ⟨by rfl, ?_⟩) (by assumption) ?_
   rotate_left
   ·intro wx hSw
    (try dsimp only at hSw)
    go_simp
    (try with_reducible rfl)
   (try simp only [Act.put, List.setIfInBounds_toArray, List.set_cons_zero, List.set_cons_succ, List.getElem_toArray, List.getElem_cons_succ, List.getElem_cons_zero])
   refine wpAnyH_take (i := 4) (v := ?_) rfl (by kernel_rfl) (by kernel_rfl) (by kernel_rfl) (fun _ _ _ h => nomatch h.1) (Or.inl ⟨by rfl, ?_⟩) (by assumption) ?_
   rotate_left
   ·intro wx hSw
    (try dsimp only at hSw)
    go_simp
    (try with_reducible rfl)
   (try simp only [Act.put, List.setIfInBounds_toArray, List.set_cons_zero, List.set_cons_succ, List.getElem_toArray, List.getElem_cons_succ, List.getElem_cons_zero])
   refine wpAnyH_take (i := 5) (v := ?_) rfl (by kernel_rfl) (by kernel_rfl) (by kernel_rfl) (fun _ _ _ h => nomatch h.1) (Or.inl ⟨by rfl, ?_⟩) (by assumption) ?_
   rotate_left
   ·intro wx hSw
    (try dsimp only at hSw)
    go_simp
    (try with_reducible rfl)
   (try simp only [Act.put, List.setIfInBounds_toArray, List.set_cons_zero, List.set_cons_succ, List.getElem_toArray, List.getElem_cons_succ, List.getElem_cons_zero])
   refine wpAnyH_take (i := 6) (v := ?_) rfl (by kernel_rfl) (by kernel_rfl) (by kernel_rfl) (fun _ _ _ h => nomatch h.1) (Or.inl ⟨by rfl, ?_⟩) (by assumption) ?_
   rotate_left
   ·intro wx hSw
    (try dsimp only at hSw)
    go_simp
    (try with_reducible rfl)
   (try simp only [Act.put, List.setIfInBounds_toArray, List.set_cons_zero, List.set_cons_succ, List.getElem_toArray, List.getElem_cons_succ, List.getElem_cons_zero])
   refine wpAnyH_done (by kernel_rfl) ?_ _
   refine ⟨rfl, ?_⟩
   all_goals
    clear u1 z1 u2 z2 u3 v1 v2 v3
    have HD2 := Lib.hid (HD2.out.rest (Z := fun _ => False) (Rest.of (Below.refl _ _).drew) (fun _ h => h.elim))
    have HRD := Lib.hid (HRD.out.trans (Rest.of (Below.refl _ _).drew))
    clear hHeld
    generalize World.drew _ = U at *
    have u4 := HD2.out.res.cell 3
    have z4 := HD2.out.res.open 3
    have H3 := Lib.hid (HD2.out.set q 3 (.int .i64 (wrap64 (H + 1))) (rc' := resC false (wrap64 (L + 1)) (wrap64 (C + c')) (wrap64 (H + 1)) 0 0 ⟨#[]⟩ ⟨#[]⟩ ⟨#[]⟩) rfl)
    have R3 := Lib.hid (HRD.out.trans (rest_setCell (X := fun k => k = w3.heap.size) U ⟨w3.heap.size, 3, none⟩ (.int .i64 (wrap64 (H + 1))) rfl))
    gi_wp2
    have h9 := H3.out
    rw [HW1.out, HW2.out, HW3.out] at h9
    rw [HW3.out] at R3 ⊢
    exact ⟨h9, hkp _ R3.out, R3.out.block _ (by have := HZ2.out; omega) (by omega), R3.out.block _ HZ2.out (by omega)⟩
  ·have hpb : (p' == hd) = false := by simpa using hpd
   gi_wp2
   refine held_round' (S := fun wx => wx.cell? ⟨W.heap.size, 1, none⟩ = some (.int .i64 p') ∧ wx.cell? ⟨w1.heap.size, 0, none⟩ = some (.pointer (some ⟨b, 0, none⟩)) ∧ wx.cell? ⟨b, 1, none⟩ = some (.int .i64 hd)) (by kernel_rfl) (by kernel_rfl) ⟨(cell_drew_own _ _).trans v1, (cell_drew_own _ _).trans v2, (cell_drew_own _ _).trans v3⟩ (fun hHeld => ?_)
   refine wpAnyH_take (i := 0) (v := ?_) rfl (by kernel_rfl) (by kernel_rfl) (by kernel_rfl) (fun _ _ _ h => nomatch h.1) (Or.inl ⟨by rfl, ?_⟩) (by assumption) ?_
   rotate_left
   ·intro wx hSw
    (try dsimp only at hSw)
    go_simp
    (try with_reducible rfl)
   (try simp only [Act.put, List.setIfInBounds_toArray, List.set_cons_zero, List.set_cons_succ, List.getElem_toArray, List.getElem_cons_succ, List.getElem_cons_zero])
   refine wpAnyH_take (i := 1) (v := ?_) rfl (by kernel_rfl) (by kernel_rfl) (by kernel_rfl) (fun _ _ _ h => nomatch h.1) (Or.inl ⟨by rfl, ?_⟩) (by assumption) ?_
   rotate_left
   ·intro wx hSw
    (try dsimp only at hSw)
    go_simp
    (try with_reducible rfl)
   (try simp only [Act.put, List.setIfInBounds_toArray, List.set_cons_zero, List.set_cons_succ, List.getElem_toArray, List.getElem_cons_succ, List.getElem_cons_zero])
   refine wpAnyH_take (i := 2) (v := ?_) rfl (by kernel_rfl) (by kernel_rfl) (by kernel_rfl) (fun _ _ _ h => nomatch h.1) (Or.inl ⟨by rfl, ?_⟩) (by assumption) ?_
   rotate_left
   ·intro wx hSw
    (try dsimp only at hSw)
    go_simp
    (try with_reducible rfl)
   (try simp only [Act.put, List.setIfInBounds_toArray, List.set_cons_zero, List.set_cons_succ, List.getElem_toArray, List.getElem_cons_succ, List.getElem_cons_zero])
   refine wpAnyH_take (i := 3) (v := ?_) rfl (by kernel_rfl) (by kernel_rfl) (by kernel_rfl) (fun _ _ _ h => nomatch h.1) (Or.inl ⟨by rfl, ?_⟩) (by assumption) ?_
   rotate_left
   ·intro wx hSw
    (try dsimp only at hSw)
    go_simp
    (try with_reducible rfl)
   (try simp only [Act.put, List.setIfInBounds_toArray, List.set_cons_zero, List.set_cons_succ, List.getElem_toArray, List.getElem_cons_succ, List.getElem_cons_zero])
   refine wpAnyH_take (i := 4) (v := ?_) rfl (by kernel_rfl) (by kernel_rfl) (by kernel_rfl) (fun _ _ _ h => nomatch h.1) (Or.inl ⟨by rfl, ?_⟩) (by assumption) ?_
   rotate_left
   ·intro wx hSw
    (try dsimp only at hSw)
    go_simp
    (try with_reducible rfl)
   (try simp only [Act.put, List.setIfInBounds_toArray, List.set_cons_zero, List.set_cons_succ, List.getElem_toArray, List.getElem_cons_succ, List.getElem_cons_zero])
   refine wpAnyH_take (i := 5) (v := ?_) rfl (by kernel_rfl) (by kernel_rfl) (by kernel_rfl) (fun _ _ _ h => nomatch h.1) (Or.inl ⟨by rfl, ?_⟩) (by assumption) ?_
   rotate_left
   ·intro wx hSw
    (try dsimp only at hSw)
    go_simp
    (try with_reducible rfl)
   (try simp only [Act.put, List.setIfInBounds_toArray, List.set_cons_zero, List.set_cons_succ, List.getElem_toArray, List.getElem_cons_succ, List.getElem_cons_zero])
   refine wpAnyH_take (i := 6) (v := ?_) rfl (by kernel_rfl) (by kernel_rfl) (by kernel_rfl) (fun _ _ _ h => nomatch h.1) (Or.inl ⟨by rfl, ?_⟩) (by assumption) ?_
   rotate_left
   ·intro wx hSw
    (try dsimp only at hSw)
    go_simp
    (try with_reducible rfl)
   (try simp only [Act.put, List.setIfInBounds_toArray, List.set_cons_zero, List.set_cons_succ, List.getElem_toArray, List.getElem_cons_succ, List.getElem_cons_zero])
   refine wpAnyH_done (by kernel_rfl) ?_ _
   refine ⟨rfl, ?_⟩
   all_goals
    clear u1 z1 u2 z2 u3 v1 v2 v3
    have HD2 := Lib.hid (HD2.out.rest (Z := fun _ => False) (Rest.of (Below.refl _ _).drew) (fun _ h => h.elim))
    have HRD := Lib.hid (HRD.out.trans (Rest.of (Below.refl _ _).drew))
    clear hHeld
    generalize World.drew _ = U at *
    gi_wp2
    have h9 := HD2.out
    rw [HW1.out, HW2.out] at h9
    exact ⟨h9, hkp _ HRD.out, HRD.out.block _ (by have := HZ2.out; omega) (by omega), HRD.out.block _ HZ2.out (by omega)⟩
 ·intro W hi hf hD
  have cm := hi.cm
  have LF := Lib.hid (fun W h => left_res b lo s hd mF xs W h)
  have HI := Lib.hid hi
  have HF := Lib.hid hf
  have HG := Lib.hid (Mc.resOf_fits s hd mF xs)
  clear hi hf hI0 hM0 hI3 hD5 h5 hdO hstep hcy hln
  rw [HR0.out] at LF HG
  clear HR0
  generalize rcOf hd xs = R0 at *
  have hdn : w.heap.size + 1 ≠ W0.heap.size := by omega
  have hwn : w.heap.size ≤ W0.heap.size := by omega
  obtain ⟨D, hDD⟩ : ∃ D, W0.heap.size = D := ⟨_, rfl⟩
  rw [hDD] at hD hdn hwn ⊢
  clear hDD hsz
  gi_wp2_with (first | ((with_reducible refine wpListIn_load_blk resT HI.out.res ?_ ?_); exact rfl) | (refine ⟨trivial, ?_⟩; gi_at_call 25; refine (callsIn_wide.2 (LF.out _ HF.out)).mono ?_; rintro e w9 ⟨rfl, hb9⟩; have HO := Lib.hid (HI.out.out.kept hb9); have HB9 := Lib.hid (HI.out.bel.trans (hb9.mono (by have := HI.out.out.lt; omega))); have HD9 := Lib.hid ((hb9.block _ (Array.getElem?_eq_some_iff.1 hD).1).trans hD); clear hb9) | ((with_reducible refine wpListIn_store_blk resT HO.out HG.out ?_ ?_); exact rfl))
  have hD10 : (w9.setRow (w.heap.size + 1) R).heap[D]? = some (.deferred (some [])) := (setRow_other _ _ _ _ (fun e => hdn e.symm)).trans HD9.out
  have hO10 := HO.out.row HG.out.size
  have hB10 := below_setRow HB9.out (g := w.heap.size + 1) (by omega) R
  have hput : Rest (fun k => k = D) (w9.setRow (w.heap.size + 1) R) ((w9.setRow (w.heap.size + 1) R).putObj D (.deferred none)) := ⟨rfl, rfl, rfl, by simp, fun k _ hx => World.putObj_heap_other hx⟩
  have hB11 := hB10.trans (rest_below hput hB10.size (fun k hk => by omega))
  refine ⟨by simp, .inl ⟨_, _, rfl, run_takeDeferred hD10, ?_⟩⟩
  exact leaves_blk2 resT rfl rfl (hO10.rest hput hdn) ⟨rfl, hB11⟩
end Go.Proofs.YthciobjklhkkcaaGreat
