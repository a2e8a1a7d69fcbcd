/-
 Package machine: what steps hands over.
-/
import Derived.Test.YthciobjklhkkcaaGreatMachN
namespace Go.Proofs.YthciobjklhkkcaaGreat
open Go.ChangeShapes Go.WideShapes Go.ChangeAt Go.RowKit Go.Shelf
set_option maxHeartbeats 8000000
set_option maxRecDepth 10000
set_option linter.unusedVariables false
set_option linter.unusedSimpArgs false

theorem steps_in (n : Nat) (b : Nat) (kind sn reg bit bud : Int) (w : World) :
  CallsIn Fence.wide n Tryz.prog 24 #[.pointer (some ⟨b, 0, none⟩), .agg #[.int .i64 kind, .int .i64 sn, .int .i64 reg, .int .i64 bit], .int .i64 bud] w fun e w' => e = .returned (.func (.func 40) #[] #[.pointer (some ⟨w.heap.size + 1 + 1, 0, none⟩), .pointer (some ⟨w.heap.size + 1, 0, none⟩), .pointer (some ⟨w.heap.size, 0, none⟩)]) ∧ w' = ((w.alloc (.cells #[.pointer (some ⟨b, 0, none⟩)] 45)).alloc (.cells #[.int .i64 kind, .int .i64 sn, .int .i64 reg, .int .i64 bit] 23)).alloc (.cells #[.int .i64 bud] 3) := by
 refine callsIn_of_wp Tryz.func24 rfl trivial ?_ rfl
 simp only [Tryz.ntmps24, List.size_toArray, List.length_cons, List.length_nil, Nat.reduceAdd, Nat.reduceSub, Array.replicate_succ, Array.replicate_zero, List.push_toArray, List.append_toArray, List.nil_append, List.cons_append]
 gi_wp2
 go_ret
 exact ⟨rfl, rfl⟩
/-- the sequence's own variables -/
structure It3 (W : World) (bb bf bm b : Nat) (f : Mc.F) (bud : Nat) : Prop where
 cb : W.cell? ⟨bb, 0, none⟩ = some (.int .i64 (bud : Int))
 f0 : W.cell? ⟨bf, 0, none⟩ = some (.int .i64 f.kind)
 f1 : W.cell? ⟨bf, 1, none⟩ = some (.int .i64 f.step)
 f2 : W.cell? ⟨bf, 2, none⟩ = some (.int .i64 f.reg)
 f3 : W.cell? ⟨bf, 3, none⟩ = some (.int .i64 f.bit)
 cm : W.cell? ⟨bm, 0, none⟩ = some (.pointer (some ⟨b, 0, none⟩))
theorem It3.rest {W W' : World} {bb bf bm b bud : Nat} {f : Mc.F} {X : Nat → Prop} (h : It3 W bb bf bm b f bud) (hr : Rest X W W') (hx : ¬ X bb ∧ ¬ X bf ∧ ¬ X bm) : It3 W' bb bf bm b f bud :=
 ⟨by rw [hr.cell (cell_lt h.cb) hx.1]; exact h.cb, by rw [hr.cell (cell_lt h.f0) hx.2.1]; exact h.f0, by rw [hr.cell (cell_lt h.f1) hx.2.1]; exact h.f1, by rw [hr.cell (cell_lt h.f2) hx.2.1]; exact h.f2, by rw [hr.cell (cell_lt h.f3) hx.2.1]; exact h.f3, by rw [hr.cell (cell_lt h.cm) hx.2.2]; exact h.cm⟩
theorem It3.kept {W W' : World} {bb bf bm b bud : Nat} {f : Mc.F} (h : It3 W bb bf bm b f bud) (hb : Below W.heap.size W W') : It3 W' bb bf bm b f bud := h.rest (X := fun _ => False) (Rest.of hb) ⟨id, id, id⟩
/-- blocks of others are written: a machine is as it was -/
theorem MacAt.far {Y : Nat → Prop} {W W' : World} {b : Nat} {l : My.Loc} {s : My.St} {hd : Int} {m : Mc.M} (h : MacAt W b l s hd m) (hr : Rest Y W W') (hy : ∀ k, Y k → Mc.off b l k) : MacAt W' b l s hd m := by
 have hbl : ∀ k, k < W.heap.size → ¬ Mc.off b l k → W'.heap[k]? = W.heap[k]? := fun k hk hn => hr.block k hk (fun y => hn (hy k y))
 have n0 : ¬ Mc.off b l b := fun h => h.1 (.inl rfl)
 have n1 : ¬ Mc.off b l l.p := fun h => h.2.1 rfl
 have n2 : ¬ Mc.off b l l.ra.block := fun h => h.2.2.1 rfl
 have n3 : ¬ Mc.off b l l.ba := fun h => h.2.2.2 rfl
 have hc : ∀ p : Addr, p.block < W.heap.size → ¬ Mc.off b l p.block → W'.cell? p = W.cell? p := fun p hk hn => World.cell?_of_block (w := W) (hbl _ hk hn)
 refine ⟨by rw [hbl _ h.lt n0]; exact h.blk, ⟨by rw [hc ⟨l.p, 0, none⟩ (cell_lt h.mem.f0) n1]; exact h.mem.f0, by rw [hc ⟨l.p, 1, none⟩ (cell_lt h.mem.f1) n1]; exact h.mem.f1, ?_, fun j hj => by rw [hc ⟨l.ba, j, none⟩ (cell_lt (h.mem.row j hj)) n3]; exact h.mem.row j hj, fun j hj => ?_, h.mem.np, h.mem.ne⟩, h.good, h.np⟩
 ·refine ⟨some l.ra, l.rc, rfl, fun j hj => ⟨l.ra, rfl, fun i u hu => ?_⟩⟩
  have hr' := h.mem.reg j hj i u hu
  rw [hc _ (cell_lt hr') (by rw [add_block, add_block]; exact n2)]
  exact hr'
 ·unfold RowAt
  rw [hbl _ (h.mem.bytes j hj).lt (fun o => o.1 (.inr ⟨j, hj, rfl⟩))]
  exact h.mem.bytes j hj
abbrev evA (x : Mc.Ev) : Array Value := #[.agg (Mc.evC x)]
theorem Mc.act_ok (x : Mc.X) (m : Mc.M) (b : Bool) (h : 0 ≤ x.h) (hp : 0 ≤ m.st.pc) : 0 ≤ (Mc.act x m b).1.st.pc := by
 unfold Mc.act
 split
 ·exact h
 split
 ·exact h
 split
 ·exact (Wd.wrap_bd _).1
 unfold Mc.does
 split
 ·exact h
 show 0 ≤ (Cs.stepS _ _ _).pc
 unfold Cs.stepS
 split
 ·exact (Wd.wrap_bd _).1
 split
 ·exact Int.emod_nonneg _ (by decide)
 ·exact Int.emod_nonneg _ (by decide)
theorem Mc.step_ok (x : Mc.X) (m : Mc.M) (f : Mc.F) (h : 0 ≤ x.h) (hp : 0 ≤ m.st.pc) : 0 ≤ (Mc.step x m f).1.st.pc := by
 refine Mc.act_ok x _ _ h ?_
 show 0 ≤ (Mc.hit _ _).pc
 rw [Mc.hit_pc]; exact hp
theorem Mc.now_pos (f : Mc.F) (k : Nat) : 0 ≤ (Mc.now f k).step := by
 unfold Mc.now
 split
 ·next h => rw [h]; omega
 ·exact Int.le_refl _
/-- where a run stands at its k-th step -/
structure Mc.On (x : Mc.X) (f : Mc.F) (bud : Nat) (xs : List Mc.Ev) (mF : Mc.M) (k : Nat) (pre : List Mc.Ev) (m : Mc.M) : Prop where
 le : k ≤ bud
 len : pre.length = k
 ev : pre ++ (Mc.go x f (bud - k) k m).2.1 = xs
 fin : (Mc.go x f (bud - k) k m).1 = mF
 pc : 0 ≤ m.st.pc
theorem Mc.On.done {x : Mc.X} {f : Mc.F} {bud : Nat} {xs : List Mc.Ev} {mF : Mc.M} {k : Nat} {pre : List Mc.Ev} {m : Mc.M} (h : Mc.On x f bud xs mF k pre m) (hd : m.done = true) : pre = xs ∧ m = mF := by
 have h1 := h.ev
 have h2 := h.fin
 rw [Mc.go_yes _ _ _ _ _ hd] at h1 h2
 exact ⟨by simpa using h1, h2⟩
theorem Mc.On.full {x : Mc.X} {f : Mc.F} {bud : Nat} {xs : List Mc.Ev} {mF : Mc.M} {pre : List Mc.Ev} {m : Mc.M} (h : Mc.On x f bud xs mF bud pre m) : pre = xs ∧ m = mF := by
 have h1 := h.ev
 have h2 := h.fin
 rw [Nat.sub_self] at h1 h2
 exact ⟨by simpa [Mc.go] using h1, h2⟩
theorem Mc.On.next {x : Mc.X} {f : Mc.F} {bud : Nat} {xs : List Mc.Ev} {mF : Mc.M} {k : Nat} {pre : List Mc.Ev} {m : Mc.M} (h : Mc.On x f bud xs mF k pre m) (hx : 0 ≤ x.h) (hd : m.done = false) (hk : k < bud) :
  Mc.On x f bud xs mF (k + 1) (pre ++ [(Mc.step x m (Mc.now f k)).2]) (Mc.step x m (Mc.now f k)).1 ∧ (pre ++ [(Mc.step x m (Mc.now f k)).2]) <+: xs := by
 have h1 := h.ev
 have h2 := h.fin
 rw [show bud - k = (bud - (k + 1)) + 1 by omega, Mc.go_no _ _ _ _ _ hd] at h1 h2
 refine ⟨⟨hk, by simp [h.len], by rw [List.append_assoc]; exact h1, h2, Mc.step_ok x m _ hx h.pc⟩, ⟨(Mc.go x f (bud - (k + 1)) (k + 1) (Mc.step x m (Mc.now f k)).1).2.1, by rw [List.append_assoc]; exact h1⟩⟩
theorem Mc.on_start (x : Mc.X) (f : Mc.F) (bud : Nat) (m : Mc.M) (hp : 0 ≤ m.st.pc) : Mc.On x f bud (Mc.go x f bud 0 m).2.1 (Mc.go x f bud 0 m).1 0 [] m := ⟨Nat.zero_le _, rfl, rfl, rfl, hp⟩
def Mc.ItR (b : Nat) (lo : My.Loc) (s : My.St) (hd : Int) (A B : World) : Prop := Rest (Mc.mine b lo) A B ∧ ∃ m, MacAt B b lo s hd m
theorem steps1_in (n l : Nat) (hn : 1 ≤ n) (b : Nat) (lo : My.Loc) (s : My.St) (hd : Int) (m0 : Mc.M) (f : Mc.F) (bud bb bf bm : Nat) (Y : Nat → Prop) (J : List Mc.Ev → World → Prop) (W : World) (hbud : bud ≤ 67108864)
  (hh : 0 ≤ hd) (hp : 0 ≤ m0.st.pc) (hm : MacAt W b lo s hd m0) (h3 : It3 W bb bf bm b f bud)
  (hY : ∀ k, Y k → Mc.off b lo k ∧ k ≠ bb ∧ k ≠ bf ∧ k ≠ bm) (ho : Mc.off b lo bb ∧ Mc.off b lo bf ∧ Mc.off b lo bm)
  (hG : Goes Mc.Ev Tryz.prog (n - 1) l evA (Mc.ItR b lo s hd) (Rest Y) (Mc.go (Mc.xOf s hd) f bud 0 m0).2.1 J) (h0 : J [] W) :
  CallsIn Fence.wide n Tryz.prog 40 #[.func (.yield l) #[] #[], .pointer (some ⟨bb, 0, none⟩), .pointer (some ⟨bf, 0, none⟩), .pointer (some ⟨bm, 0, none⟩)] W fun e W' => (∃ v, e = .returned v) ∧ J (Mc.go (Mc.xOf s hd) f bud 0 m0).2.1 W' ∧ MacAt W' b lo s hd (Mc.go (Mc.xOf s hd) f bud 0 m0).1 := by
 obtain ⟨kind, sn, reg, bit⟩ := f
 have hon := Mc.on_start (Mc.xOf s hd) ⟨kind, sn, reg, bit⟩ bud m0 hp
 generalize (Mc.go (Mc.xOf s hd) ⟨kind, sn, reg, bit⟩ bud 0 m0).2.1 = xs at *
 generalize (Mc.go (Mc.xOf s hd) ⟨kind, sn, reg, bit⟩ bud 0 m0).1 = mF at *
 have cb := h3.cb
 have HH3 := Lib.hid h3
 have HM0 := Lib.hid hm
 have HG := Lib.hid hG
 have HY := Lib.hid hY
 have HO := Lib.hid ho
 clear h3 hm hG hY ho
 refine callsIn_of_wp Tryz.func40 rfl trivial ?_ rfl
 simp only [Tryz.ntmps40, List.size_toArray, List.length_cons, List.length_nil, Nat.reduceAdd, Nat.reduceSub, Array.replicate_succ, Array.replicate_zero, List.push_toArray, List.append_toArray, List.nil_append, List.cons_append]
 gi_wp2
 gi_loopw [10] (fun c wr => ∃ (k : Nat) (pre : List Mc.Ev) (m : Mc.M), c = .int .i64 (k : Int) ∧ Mc.On (Mc.xOf s hd) ⟨kind, sn, reg, bit⟩ bud xs mF k pre m ∧ MacAt wr b lo s hd m ∧ J pre wr ∧ It3 wr bb bf bm b ⟨kind, sn, reg, bit⟩ bud) (fun c _ => bud - (intOf c).toNat)
 case atStart => exact ⟨0, [], m0, rfl, hon, HM0.out, h0, HH3.out⟩
 case round =>
  obtain ⟨k, pre, m, rfl, hk, hm, hJ, h3⟩ := hrel
  by_cases hlt : k < bud
  rotate_left
  ·have hge : ¬ (k : Int) < (bud : Int) := by omega
   obtain rfl : k = bud := by have := hk.le; omega
   obtain ⟨hx1, hx2⟩ := hk.full
   subst hx1 hx2
   clear hk h3 HG
   gi_wp2
   go_end0
   exact ⟨⟨_, rfl⟩, hJ, hm⟩
  have hlt' : (k : Int) < (bud : Int) := by omega
  clear h0 HM0 HH3 cb
  by_cases hs : sn = (k : Int)
  ·have hq : ((k : Int) == sn) = true := by simp [hs]
   have hnow : Mc.now ⟨kind, sn, reg, bit⟩ k = ⟨kind, sn, reg, bit⟩ := if_pos hs
   clear hs
   cases hdn : m.done
   ·have g1 := (h3.kept (W' := wr.alloc (.cells #[.int .i64 0, .int .i64 0, .int .i64 0, .int .i64 0] 23)) ((Below.refl _ _).alloc (Nat.le_refl _) _))
    have e0 : (wr.alloc (.cells #[.int .i64 0, .int .i64 0, .int .i64 0, .int .i64 0] 23)).cell? ⟨bf, 0, none⟩ = some (.int .i64 kind) := g1.f0
    have e1 : (wr.alloc (.cells #[.int .i64 0, .int .i64 0, .int .i64 0, .int .i64 0] 23)).cell? ⟨bf, 1, none⟩ = some (.int .i64 sn) := g1.f1
    have e2 : (wr.alloc (.cells #[.int .i64 0, .int .i64 0, .int .i64 0, .int .i64 0] 23)).cell? ⟨bf, 2, none⟩ = some (.int .i64 reg) := g1.f2
    have e3 : (wr.alloc (.cells #[.int .i64 0, .int .i64 0, .int .i64 0, .int .i64 0] 23)).cell? ⟨bf, 3, none⟩ = some (.int .i64 bit) := g1.f3
    have em := (h3.kept (W' := wr.alloc (.cells #[.int .i64 kind, .int .i64 sn, .int .i64 reg, .int .i64 bit] 23)) ((Below.refl _ _).alloc (Nat.le_refl _) _)).cm
    have hA1 := hm.alloc (.cells #[.int .i64 kind, .int .i64 sn, .int .i64 reg, .int .i64 bit] 23)
    have hBA : Below wr.heap.size wr (wr.alloc (.cells #[.int .i64 kind, .int .i64 sn, .int .i64 reg, .int .i64 bit] 23)) := (Below.refl _ _).alloc (Nat.le_refl _) _
    have HA := Lib.hid hA1
    have HBA := Lib.hid hBA
    have H3 := Lib.hid h3
    have HJ := Lib.hid hJ
    have HK := Lib.hid hk
    clear h3 hm hJ g1 hA1 hBA
    have hn9 := hk.next hh hdn hlt
    have hst := mstep_any b lo s hd m (Mc.now ⟨kind, sn, reg, bit⟩ k) (wr.alloc (.cells #[.int .i64 kind, .int .i64 sn, .int .i64 reg, .int .i64 bit] 23)) HA.out hk.pc hdn
    rw [Mc.stepP_eq _ _ _ (Mc.now_pos _ _)] at hst
    rw [hnow] at hst hn9
    rcases hx : Mc.step (Mc.xOf s hd) m ⟨kind, sn, reg, bit⟩ with ⟨m', ⟨k', p', a', c'⟩⟩
    rw [hx] at hst hn9
    dsimp only [Mc.evC] at hst hn9
    obtain ⟨hn9, hpre⟩ := hn9
    have CS := Lib.hid hst
    have HN := Lib.hid hn9
    have HP := Lib.hid hpre
    clear hst hn9 hpre hx hk
    gi_wp2_with (refine ⟨trivial, ?_⟩; gi_at_call 19; refine (callsIn_wide.2 CS.out).mono ?_; rintro e w5 ⟨rfl, hM5, hR5⟩; have HR5 := Lib.hid (((Rest.of HBA.out).trans hR5).trans (Rest.of ((Below.refl w5.heap.size w5).alloc (Nat.le_refl _) (.cells #[.int .i64 k', .int .i64 p', .int .i64 a', .int .i64 c'] 49)))); have HM5 := Lib.hid (hM5.alloc (.cells #[.int .i64 k', .int .i64 p', .int .i64 a', .int .i64 c'] 49)); have hJV := HG.out.abides pre wr _ HJ.out ⟨HR5.out, _, HM5.out⟩; obtain ⟨fn, tmps, assign, body, hy, hR⟩ := HG.out.yields pre ⟨k', p', a', c'⟩ _ hJV HP.out; dsimp only [evA, Mc.evC] at hy; clear hM5 hR5)
    refine hR.mono ?_
    rintro e W3 ⟨rfl, hJ3, hR3⟩
    gi_wp2
    go_roundw
    case rel => exact ⟨k + 1, _, _, by simp, HN.out, HM5.out.far hR3 (fun k hk => (HY.out k hk).1), hJ3, (H3.out.rest HR5.out ⟨HO.out.1.1, HO.out.2.1.1, HO.out.2.2.1⟩).rest hR3 ⟨fun h => (HY.out _ h).2.1 rfl, fun h => (HY.out _ h).2.2.1 rfl, fun h => (HY.out _ h).2.2.2 rfl⟩⟩
    case measure => simp [intOf]; omega
   ·have g1 := (h3.kept (W' := wr.alloc (.cells #[.int .i64 0, .int .i64 0, .int .i64 0, .int .i64 0] 23)) ((Below.refl _ _).alloc (Nat.le_refl _) _))
    have e0 : (wr.alloc (.cells #[.int .i64 0, .int .i64 0, .int .i64 0, .int .i64 0] 23)).cell? ⟨bf, 0, none⟩ = some (.int .i64 kind) := g1.f0
    have e1 : (wr.alloc (.cells #[.int .i64 0, .int .i64 0, .int .i64 0, .int .i64 0] 23)).cell? ⟨bf, 1, none⟩ = some (.int .i64 sn) := g1.f1
    have e2 : (wr.alloc (.cells #[.int .i64 0, .int .i64 0, .int .i64 0, .int .i64 0] 23)).cell? ⟨bf, 2, none⟩ = some (.int .i64 reg) := g1.f2
    have e3 : (wr.alloc (.cells #[.int .i64 0, .int .i64 0, .int .i64 0, .int .i64 0] 23)).cell? ⟨bf, 3, none⟩ = some (.int .i64 bit) := g1.f3
    have em := (h3.kept (W' := wr.alloc (.cells #[.int .i64 kind, .int .i64 sn, .int .i64 reg, .int .i64 bit] 23)) ((Below.refl _ _).alloc (Nat.le_refl _) _)).cm
    have hA1 := hm.alloc (.cells #[.int .i64 kind, .int .i64 sn, .int .i64 reg, .int .i64 bit] 23)
    have hBA : Below wr.heap.size wr (wr.alloc (.cells #[.int .i64 kind, .int .i64 sn, .int .i64 reg, .int .i64 bit] 23)) := (Below.refl _ _).alloc (Nat.le_refl _) _
    have HA := Lib.hid hA1
    have HBA := Lib.hid hBA
    have H3 := Lib.hid h3
    have HJ := Lib.hid hJ
    have HK := Lib.hid hk
    clear h3 hm hJ g1 hA1 hBA
    have CS := Lib.hid (step_done b lo s hd m kind sn reg bit _ HA hdn)
    clear hk
    gi_wp2_with (refine ⟨trivial, ?_⟩; gi_at_call 19; refine (callsIn_wide.2 CS.out).mono ?_; rintro e w5 ⟨rfl, hb5⟩; have HB5 := Lib.hid hb5; clear hb5)
    gi_wp2
    refine ⟨fun _ h => (by cases h), ?_⟩
    gi_wp2
    refine bodyPost_ret (results_none rfl _ _ _) rfl ?_
    obtain ⟨hx1, hx2⟩ := HK.out.done hdn
    have hbb := (HBA.out.trans (HB5.out.mono HBA.out.size))
    have hbb2 := hbb.alloc hbb.size (.cells #[.int .i64 0, .int .i64 0, .int .i64 0, .int .i64 0] 49)
    have hM5 := (HA.out.kept HB5.out).alloc (.cells #[.int .i64 0, .int .i64 0, .int .i64 0, .int .i64 0] 49)
    subst hx1 hx2
    exact ⟨⟨_, rfl⟩, HG.out.abides _ _ _ HJ.out ⟨Rest.of hbb2, _, hM5⟩, hM5⟩
  ·have hq : ((k : Int) == sn) = false := by simp; exact fun h => hs h.symm
   have hnow : Mc.now ⟨kind, sn, reg, bit⟩ k = Mc.none := if_neg hs
   clear hs
   cases hdn : m.done
   ·have g1 := (h3.kept (W' := wr.alloc (.cells #[.int .i64 0, .int .i64 0, .int .i64 0, .int .i64 0] 23)) ((Below.refl _ _).alloc (Nat.le_refl _) _))
    have e0 : (wr.alloc (.cells #[.int .i64 0, .int .i64 0, .int .i64 0, .int .i64 0] 23)).cell? ⟨bf, 0, none⟩ = some (.int .i64 kind) := g1.f0
    have e1 : (wr.alloc (.cells #[.int .i64 0, .int .i64 0, .int .i64 0, .int .i64 0] 23)).cell? ⟨bf, 1, none⟩ = some (.int .i64 sn) := g1.f1
    have e2 : (wr.alloc (.cells #[.int .i64 0, .int .i64 0, .int .i64 0, .int .i64 0] 23)).cell? ⟨bf, 2, none⟩ = some (.int .i64 reg) := g1.f2
    have e3 : (wr.alloc (.cells #[.int .i64 0, .int .i64 0, .int .i64 0, .int .i64 0] 23)).cell? ⟨bf, 3, none⟩ = some (.int .i64 bit) := g1.f3
    have em := (h3.kept (W' := wr.alloc (.cells #[.int .i64 0, .int .i64 0, .int .i64 0, .int .i64 0] 23)) ((Below.refl _ _).alloc (Nat.le_refl _) _)).cm
    have hA1 := hm.alloc (.cells #[.int .i64 0, .int .i64 0, .int .i64 0, .int .i64 0] 23)
    have hBA : Below wr.heap.size wr (wr.alloc (.cells #[.int .i64 0, .int .i64 0, .int .i64 0, .int .i64 0] 23)) := (Below.refl _ _).alloc (Nat.le_refl _) _
    have HA := Lib.hid hA1
    have HBA := Lib.hid hBA
    have H3 := Lib.hid h3
    have HJ := Lib.hid hJ
    have HK := Lib.hid hk
    clear h3 hm hJ g1 hA1 hBA
    have hn9 := hk.next hh hdn hlt
    have hst := mstep_any b lo s hd m (Mc.now ⟨kind, sn, reg, bit⟩ k) (wr.alloc (.cells #[.int .i64 0, .int .i64 0, .int .i64 0, .int .i64 0] 23)) HA.out hk.pc hdn
    rw [Mc.stepP_eq _ _ _ (Mc.now_pos _ _)] at hst
    rw [hnow] at hst hn9
    rcases hx : Mc.step (Mc.xOf s hd) m Mc.none with ⟨m', ⟨k', p', a', c'⟩⟩
    rw [hx] at hst hn9
    dsimp only [Mc.evC] at hst hn9
    obtain ⟨hn9, hpre⟩ := hn9
    have CS := Lib.hid hst
    have HN := Lib.hid hn9
    have HP := Lib.hid hpre
    clear hst hn9 hpre hx hk
    gi_wp2_with (refine ⟨trivial, ?_⟩; gi_at_call 19; refine (callsIn_wide.2 CS.out).mono ?_; rintro e w5 ⟨rfl, hM5, hR5⟩; have HR5 := Lib.hid (((Rest.of HBA.out).trans hR5).trans (Rest.of ((Below.refl w5.heap.size w5).alloc (Nat.le_refl _) (.cells #[.int .i64 k', .int .i64 p', .int .i64 a', .int .i64 c'] 49)))); have HM5 := Lib.hid (hM5.alloc (.cells #[.int .i64 k', .int .i64 p', .int .i64 a', .int .i64 c'] 49)); have hJV := HG.out.abides pre wr _ HJ.out ⟨HR5.out, _, HM5.out⟩; obtain ⟨fn, tmps, assign, body, hy, hR⟩ := HG.out.yields pre ⟨k', p', a', c'⟩ _ hJV HP.out; dsimp only [evA, Mc.evC] at hy; clear hM5 hR5)
    refine hR.mono ?_
    rintro e W3 ⟨rfl, hJ3, hR3⟩
    gi_wp2
    go_roundw
    case rel => exact ⟨k + 1, _, _, by simp, HN.out, HM5.out.far hR3 (fun k hk => (HY.out k hk).1), hJ3, (H3.out.rest HR5.out ⟨HO.out.1.1, HO.out.2.1.1, HO.out.2.2.1⟩).rest hR3 ⟨fun h => (HY.out _ h).2.1 rfl, fun h => (HY.out _ h).2.2.1 rfl, fun h => (HY.out _ h).2.2.2 rfl⟩⟩
    case measure => simp [intOf]; omega
   ·have g1 := (h3.kept (W' := wr.alloc (.cells #[.int .i64 0, .int .i64 0, .int .i64 0, .int .i64 0] 23)) ((Below.refl _ _).alloc (Nat.le_refl _) _))
    have e0 : (wr.alloc (.cells #[.int .i64 0, .int .i64 0, .int .i64 0, .int .i64 0] 23)).cell? ⟨bf, 0, none⟩ = some (.int .i64 kind) := g1.f0
    have e1 : (wr.alloc (.cells #[.int .i64 0, .int .i64 0, .int .i64 0, .int .i64 0] 23)).cell? ⟨bf, 1, none⟩ = some (.int .i64 sn) := g1.f1
    have e2 : (wr.alloc (.cells #[.int .i64 0, .int .i64 0, .int .i64 0, .int .i64 0] 23)).cell? ⟨bf, 2, none⟩ = some (.int .i64 reg) := g1.f2
    have e3 : (wr.alloc (.cells #[.int .i64 0, .int .i64 0, .int .i64 0, .int .i64 0] 23)).cell? ⟨bf, 3, none⟩ = some (.int .i64 bit) := g1.f3
    have em := (h3.kept (W' := wr.alloc (.cells #[.int .i64 0, .int .i64 0, .int .i64 0, .int .i64 0] 23)) ((Below.refl _ _).alloc (Nat.le_refl _) _)).cm
    have hA1 := hm.alloc (.cells #[.int .i64 0, .int .i64 0, .int .i64 0, .int .i64 0] 23)
    have hBA : Below wr.heap.size wr (wr.alloc (.cells #[.int .i64 0, .int .i64 0, .int .i64 0, .int .i64 0] 23)) := (Below.refl _ _).alloc (Nat.le_refl _) _
    have HA := Lib.hid hA1
    have HBA := Lib.hid hBA
    have H3 := Lib.hid h3
    have HJ := Lib.hid hJ
    have HK := Lib.hid hk
    clear h3 hm hJ g1 hA1 hBA
    have CS := Lib.hid (step_done b lo s hd m 0 0 0 0 _ HA hdn)
    clear hk
    gi_wp2_with (refine ⟨trivial, ?_⟩; gi_at_call 19; refine (callsIn_wide.2 CS.out).mono ?_; rintro e w5 ⟨rfl, hb5⟩; have HB5 := Lib.hid hb5; clear hb5)
    gi_wp2
    refine ⟨fun _ h => (by cases h), ?_⟩
    gi_wp2
    refine bodyPost_ret (results_none rfl _ _ _) rfl ?_
    obtain ⟨hx1, hx2⟩ := HK.out.done hdn
    have hbb := (HBA.out.trans (HB5.out.mono HBA.out.size))
    have hbb2 := hbb.alloc hbb.size (.cells #[.int .i64 0, .int .i64 0, .int .i64 0, .int .i64 0] 49)
    have hM5 := (HA.out.kept HB5.out).alloc (.cells #[.int .i64 0, .int .i64 0, .int .i64 0, .int .i64 0] 49)
    subst hx1 hx2
    exact ⟨⟨_, rfl⟩, HG.out.abides _ _ _ HJ.out ⟨Rest.of hbb2, _, hM5⟩, hM5⟩
end Go.Proofs.YthciobjklhkkcaaGreat
