/-
 Package machine: what Trace returns.
-/
import Derived.RangeFuncBox
import Derived.Maps.AppendAt
import Derived.Test.YthciobjklhkkcaaGreatMachS
namespace Go.Proofs.YthciobjklhkkcaaGreat
open Go.ChangeShapes Go.WideShapes Go.ChangeAt Go.RowKit Go.Shelf
set_option maxHeartbeats 8000000
set_option maxRecDepth 10000
set_option linter.unusedVariables false
set_option linter.unusedSimpArgs false
attribute [local go_sem] Oper.semAt_some

/-- events as cells, one behind the other -/
def evCs (l : List Mc.Ev) : List Value := l.flatMap fun v => (Mc.evC v).toList
theorem evCs_app (l : List Mc.Ev) (v : Mc.Ev) : evCs (l ++ [v]) = evCs l ++ [.int .i64 v.kind, .int .i64 v.pc, .int .i64 v.addr, .int .i64 v.cyc] := by unfold evCs; simp [Mc.evC]
theorem ownsRow_rest {X : Nat → Prop} {w w' : World} {base : Nat} {e : TypeId} {size : Nat} {v : Value} {n : Nat} {xs : List Value} (h : w.ownsRow base e size v n xs) (hr : Rest X w w') (hx : ∀ k, X k → k < base) : w'.ownsRow base e size v n xs := by
 refine ⟨h.1, ?_⟩
 rcases h.2 with hn | ⟨g, cap, cur, rfl, hb, hgg, rest⟩
 ·exact .inl hn
 ·refine .inr ⟨g, cap, cur, rfl, hb, ?_, rest⟩
  rw [hr.block g (Array.getElem?_eq_some_iff.1 hgg).1 (fun x => by have := hx g x; omega)]
  exact hgg
theorem ownsRow_down {w : World} {base base' : Nat} {e : TypeId} {size : Nat} {v : Value} {n : Nat} {xs : List Value} (h : w.ownsRow base e size v n xs) (hb : base' ≤ base) : w.ownsRow base' e size v n xs := by
 refine ⟨h.1, ?_⟩
 rcases h.2 with hn | ⟨g, cap, cur, rfl, hg, rest⟩
 ·exact .inl hn
 ·exact .inr ⟨g, cap, cur, rfl, Nat.le_trans hb hg, rest⟩
theorem boxed_rest {X : Nat → Prop} {w w' : World} {B : Nat} {t : TypeId} {v : Value} (h : Boxed w B t v) (hr : Rest X w w') (hx : ¬ X B) : Boxed w' B t v := (hr.block B h.lt hx).trans h
theorem rest_grown {w w' : World} {row : Option Nat} (h : w.grownBy w' row) {X : Nat → Prop} (hx : ∀ k, row = some k → X k) : Rest X w w' := ⟨h.os, h.tape, h.output, h.size, fun k hk hn => h.block k hk (fun e => hn (hx k e.symm))⟩
/-- what Trace's loop keeps: its list in box d, the list's row from block g on -/
structure Tr (w : World) (d g b : Nat) (lo : My.Loc) (s : My.St) (hd : Int) (pre : List Mc.Ev) (W : World) : Prop where
 mac : ∃ m, MacAt W b lo s hd m
 box : ∃ v, Boxed W d 36 v ∧ W.ownsRow g 49 4 v pre.length (evCs pre)
 bel : Below w.heap.size w W
structure Trs (w : World) (d g b : Nat) (lo : My.Loc) : Prop where
 od : Mc.off b lo d
 mine : ∀ k, Mc.mine b lo k → w.heap.size ≤ k ∧ k < g
 ne : w.heap.size ≤ d ∧ d < g
section
variable {w W W' : World} {d g b : Nat} {lo : My.Loc} {s : My.St} {hd : Int} {pre : List Mc.Ev}
theorem Tr.le (h : Tr w d g b lo s hd pre W) : w.heap.size ≤ W.heap.size := h.bel.size
theorem Tr.it (h : Tr w d g b lo s hd pre W) (q : Trs w d g b lo) (hi : Mc.ItR b lo s hd W W') : Tr w d g b lo s hd pre W' := by
 obtain ⟨v, hv, hr⟩ := h.box
 exact ⟨hi.2, ⟨v, boxed_rest hv hi.1 q.od.1, ownsRow_rest hr hi.1 (fun k hk => (q.mine k hk).2)⟩, h.bel.trans (rest_below hi.1 h.bel.size (fun k hk => (q.mine k hk).1))⟩
theorem Tr.rest {Z : Nat → Prop} (h : Tr w d g b lo s hd pre W) (hr : Rest Z W W') (hz : ∀ k, Z k → Mc.off b lo k ∧ k ≠ d ∧ w.heap.size ≤ k ∧ k < g) : Tr w d g b lo s hd pre W' := by
 obtain ⟨m, hm⟩ := h.mac
 obtain ⟨v, hv, hrow⟩ := h.box
 exact ⟨⟨m, hm.far hr (fun k hk => (hz k hk).1)⟩, ⟨v, boxed_rest hv hr (fun z => (hz _ z).2.1 rfl), ownsRow_rest hrow hr (fun k hk => (hz k hk).2.2.2)⟩, h.bel.trans (rest_below hr h.bel.size (fun k hk => (hz k hk).2.2.1))⟩
end
theorem cell4_new (w : World) (a b c d : Int) (t : TypeId) : ∀ j u, ([.int .i64 a, .int .i64 b, .int .i64 c, .int .i64 d] : List Value)[j]? = some u → (w.alloc (.cells #[.int .i64 a, .int .i64 b, .int .i64 c, .int .i64 d] t)).cell? ((⟨w.heap.size, 0, none⟩ : Addr).add j) = some u := by
 intro j u hj
 have hlt : j < 4 := by
  apply Nat.lt_of_not_le
  intro hge
  rw [List.getElem?_eq_none (by exact hge)] at hj
  cases hj
 rcases (by omega : j = 0 ∨ j = 1 ∨ j = 2 ∨ j = 3) with rfl | rfl | rfl | rfl <;> (simp at hj; subst hj; simp [go_sem, Addr.add])
theorem info_ev : (Tryz.prog.info? 49).map (fun i => (i.zero, i.size, i.bytes)) = some (some (.agg #[.int .i64 0, .int .i64 0, .int .i64 0, .int .i64 0]), 4, 32) := by kernel_rfl
theorem trace_bad (n : Nat) (h1 : 1 ≤ n) (img inp : ByteArray) (bud E : Int) (w : World) (hE : ¬ E = 0)
  (CN : Hid (∀ W : World, Calls Tryz.prog 17 #[.string img, .string inp] W fun e w' => e = .returned (.tuple #[.pointer none, .int .i64 E]) ∧ Below W.heap.size W w')) :
  CallsIn Fence.wide n Tryz.prog 13 #[.string img, .string inp, .int .i64 bud] w fun e w' => ∃ v, e = .returned (.tuple #[v, .int .i64 E]) ∧ w'.ownsRow w.heap.size 49 4 v 0 [] ∧ Below w.heap.size w w' := by
 have hE' : (E != 0) = true := by simpa using hE
 refine callsIn_of_wp_marks Tryz.func13 rfl trivial ?_ rfl
 simp only [Tryz.ntmps13, List.size_toArray, List.length_cons, List.length_nil, Nat.reduceAdd, Nat.reduceSub, Array.replicate_succ, Array.replicate_zero, List.push_toArray, List.append_toArray, List.nil_append, List.cons_append]
 gi_wp2_with (refine ⟨trivial, ?_⟩; gi_at_call 17; refine (callsIn_wide.2 (CN.out _)).mono ?_; rintro e w1 ⟨rfl, hb1⟩; have HB := Lib.hid hb1; clear hb1)
 exact ⟨.tuple #[.slice none 0 0, .int .i64 E], by simp [results, Tryz.results13, go_sem], _, rfl, World.ownsRow_nil _ _ _ _, HB.out⟩
theorem trace_arg (n : Nat) (h1 : 1 ≤ n) (img inp : ByteArray) (bud : Int) (s : My.St) (hd : Int) (m0 : Mc.M) (w : World) (hbad : bud < 0 ∨ ¬ bud < 0 ∧ 1048576 < bud)
  (CN : Hid (∀ W : World, Calls Tryz.prog 17 #[.string img, .string inp] W fun e w' => ∃ b lo, e = .returned (.tuple #[.pointer (some ⟨b, 0, none⟩), .int .i64 0]) ∧ MacAt w' b lo s hd m0 ∧ (∀ k, Mc.mine b lo k → W.heap.size ≤ k) ∧ Below W.heap.size W w')) :
  CallsIn Fence.wide n Tryz.prog 13 #[.string img, .string inp, .int .i64 bud] w fun e w' => ∃ v, e = .returned (.tuple #[v, .int .i64 2]) ∧ w'.ownsRow w.heap.size 49 4 v 0 [] ∧ Below w.heap.size w w' := by
 refine callsIn_of_wp_marks Tryz.func13 rfl trivial ?_ rfl
 simp only [Tryz.ntmps13, List.size_toArray, List.length_cons, List.length_nil, Nat.reduceAdd, Nat.reduceSub, Array.replicate_succ, Array.replicate_zero, List.push_toArray, List.append_toArray, List.nil_append, List.cons_append]
 rcases hbad with hb | ⟨hb0, hb⟩
 all_goals
  gi_wp2_with (refine ⟨trivial, ?_⟩; gi_at_call 17; refine (callsIn_wide.2 (CN.out _)).mono ?_; rintro e w1 ⟨b, lo, rfl, hM1, hmine, hb1⟩; have HB := Lib.hid hb1; clear hb1 hM1 hmine)
  exact ⟨.tuple #[.slice none 0 0, .int .i64 2], by simp [results, Tryz.results13, go_sem], _, rfl, World.ownsRow_nil _ _ _ _, HB.out⟩
theorem trace_y (n : Nat) (hn : 3 ≤ n) (img inp : ByteArray) (bud : Nat) (s : My.St) (hd : Int) (m0 : Mc.M) (w : World) (hbud : bud ≤ 1048576) (hh : 0 ≤ hd) (hp : 0 ≤ m0.st.pc)
  (CN : Hid (∀ W : World, Calls Tryz.prog 17 #[.string img, .string inp] W fun e w' => ∃ b lo, e = .returned (.tuple #[.pointer (some ⟨b, 0, none⟩), .int .i64 0]) ∧ MacAt w' b lo s hd m0 ∧ (∀ k, Mc.mine b lo k → W.heap.size ≤ k) ∧ Below W.heap.size W w')) :
  CallsIn Fence.wide n Tryz.prog 13 #[.string img, .string inp, .int .i64 (bud : Int)] w fun e w' => ∃ v, e = .returned (.tuple #[v, .int .i64 0]) ∧ w'.ownsRow w.heap.size 49 4 v (Mc.go (Mc.xOf s hd) Mc.none bud 0 m0).2.1.length (evCs (Mc.go (Mc.xOf s hd) Mc.none bud 0 m0).2.1) ∧ Below w.heap.size w w' := by
 obtain ⟨xs, hxs⟩ : ∃ xs, (Mc.go (Mc.xOf s hd) Mc.none bud 0 m0).2.1 = xs := ⟨_, rfl⟩
 obtain ⟨mF, hmF⟩ : ∃ mF, (Mc.go (Mc.xOf s hd) Mc.none bud 0 m0).1 = mF := ⟨_, rfl⟩
 have hln := Mc.go_len (Mc.xOf s hd) Mc.none bud 0 m0
 rw [hxs] at hln
 rw [hxs]
 obtain ⟨i0, hi, hz0, hz1, hz2⟩ := info_parts info_ev
 have HXS := Lib.hid hxs
 have HMF := Lib.hid hmF
 have HLN := Lib.hid hln
 clear hxs hmF hln
 have h1 : 1 ≤ n := by omega
 have hb1 : ¬ (bud : Int) < 0 := by omega
 have hb2 : ¬ (1048576 : Int) < (bud : Int) := by omega
 refine callsIn_of_wp_marks Tryz.func13 rfl trivial ?_ rfl
 simp only [Tryz.ntmps13, List.size_toArray, List.length_cons, List.length_nil, Nat.reduceAdd, Nat.reduceSub, Array.replicate_succ, Array.replicate_zero, List.push_toArray, List.append_toArray, List.nil_append, List.cons_append]
 gi_wp2_with (first | (refine ⟨trivial, ?_⟩; gi_at_call 17; refine (callsIn_wide.2 (CN.out _)).mono ?_; rintro e w1 ⟨b, lo, rfl, hM1, hmine, hbl1⟩; have H1 := Lib.hid hM1; have HM := Lib.hid hmine; have HB := Lib.hid hbl1; clear hM1 hmine hbl1) | (refine ⟨trivial, ?_⟩; gi_at_call 24; refine (steps_in _ _ _ _ _ _ _ _).mono ?_; rintro e w5 ⟨rfl, rfl⟩))
 have hoff : ∀ k, w1.heap.size ≤ k → Mc.off b lo k := fun k hk => H1.out.newer hk
 have hws := HB.out.size
 clear hb1 hb2 CN
 have hI3 : It3 ((((w1.alloc (.cells #[.slice none 0 0] 36)).alloc (.cells #[.pointer (some ⟨b, 0, none⟩)] 45)).alloc (.cells #[.int .i64 0, .int .i64 0, .int .i64 0, .int .i64 0] 23)).alloc (.cells #[.int .i64 (bud : Int)] 3)) (w1.heap.size + 1 + 1 + 1) (w1.heap.size + 1 + 1) (w1.heap.size + 1) b Mc.none bud := by
  refine ⟨?_, ?_, ?_, ?_, ?_, ?_⟩ <;> simp [go_sem, Mc.none]
 have hBx : Boxed ((((w1.alloc (.cells #[.slice none 0 0] 36)).alloc (.cells #[.pointer (some ⟨b, 0, none⟩)] 45)).alloc (.cells #[.int .i64 0, .int .i64 0, .int .i64 0, .int .i64 0] 23)).alloc (.cells #[.int .i64 (bud : Int)] 3)) w1.heap.size 36 (.slice none 0 0) := (((Boxed.new w1 _ _).alloc _).alloc _).alloc _
 have hM0 := (((H1.out.alloc (.cells #[.slice none 0 0] 36)).alloc (.cells #[.pointer (some ⟨b, 0, none⟩)] 45)).alloc (.cells #[.int .i64 0, .int .i64 0, .int .i64 0, .int .i64 0] 23)).alloc (.cells #[.int .i64 (bud : Int)] 3)
 have hbl0 : Below w.heap.size w ((((w1.alloc (.cells #[.slice none 0 0] 36)).alloc (.cells #[.pointer (some ⟨b, 0, none⟩)] 45)).alloc (.cells #[.int .i64 0, .int .i64 0, .int .i64 0, .int .i64 0] 23)).alloc (.cells #[.int .i64 (bud : Int)] 3)) := (((HB.out.alloc hws _).alloc (by simp only [World.size_alloc]; omega) _).alloc (by simp only [World.size_alloc]; omega) _).alloc (by simp only [World.size_alloc]; omega) _
 have hsz : ((((w1.alloc (.cells #[.slice none 0 0] 36)).alloc (.cells #[.pointer (some ⟨b, 0, none⟩)] 45)).alloc (.cells #[.int .i64 0, .int .i64 0, .int .i64 0, .int .i64 0] 23)).alloc (.cells #[.int .i64 (bud : Int)] 3)).heap.size = w1.heap.size + 1 + 1 + 1 + 1 := by simp
 obtain ⟨W0, hW0⟩ : ∃ W0, ((((w1.alloc (.cells #[.slice none 0 0] 36)).alloc (.cells #[.pointer (some ⟨b, 0, none⟩)] 45)).alloc (.cells #[.int .i64 0, .int .i64 0, .int .i64 0, .int .i64 0] 23)).alloc (.cells #[.int .i64 (bud : Int)] 3)) = W0 := ⟨_, rfl⟩
 rw [hW0] at hI3 hBx hM0 hbl0 hsz ⊢
 clear hW0
 have hmn : ∀ k, Mc.mine b lo k → w.heap.size ≤ k ∧ k < w1.heap.size := fun k hk => ⟨HM.out k hk, by
  by_cases h : w1.heap.size ≤ k
  ·exact absurd hk (hoff k h).1
  ·omega⟩
 clear H1 HM HB
 have q : Trs w w1.heap.size (W0.heap.size + 2) b lo := ⟨hoff _ (Nat.le_refl _), fun k hk => ⟨(hmn k hk).1, by have := (hmn k hk).2; omega⟩, hws, by omega⟩
 have hI0 : Tr w w1.heap.size (W0.heap.size + 2) b lo s hd [] W0 := ⟨⟨_, hM0⟩, ⟨_, hBx, World.ownsRow_nil _ _ _ _⟩, hbl0⟩
 have hstep := fun (J : List Mc.Ev → World → Prop) (W : World) (l : Nat) (hb : Below W0.heap.size W0 W) (hG : Goes Mc.Ev Tryz.prog (n - 1 - 1) l evA (Mc.ItR b lo s hd) (Rest (fun k => k = w1.heap.size ∨ W0.heap.size ≤ k)) (Mc.go (Mc.xOf s hd) Mc.none bud 0 m0).2.1 J) (hJ : J [] W) => steps1_in (n - 1) l (by omega) b lo s hd m0 Mc.none bud (w1.heap.size + 1 + 1 + 1) (w1.heap.size + 1 + 1) (w1.heap.size + 1) _ J W (by omega) hh hp (hM0.kept hb) (hI3.kept hb) (fun k hk => ⟨hoff k (by omega), by omega, by omega, by omega⟩) ⟨hoff _ (by omega), hoff _ (by omega), hoff _ (by omega)⟩ hG hJ
 rw [HXS.out, HMF.out] at hstep
 clear HXS HMF
 (try generalize Value.bool (decide ((bud : Int) < 0) || decide ((1048576 : Int) < (bud : Int))) = y1)
 (try generalize Value.bool (decide ((1048576 : Int) < (bud : Int))) = y2)
 (try generalize Value.bool (decide ((bud : Int) < 0)) = y3)
 refine wpIn_range9 (encs := evA) (gf := 40) xs (fun pre W => Tr w w1.heap.size (W0.heap.size + 2) b lo s hd pre W) (Mc.ItR b lo s hd) (Rest (fun k => k = w1.heap.size ∨ W0.heap.size ≤ k)) (fun W => MacAt W b lo s hd mF) 11 (fun x W => W.alloc (.cells (Mc.evC x) 49)) h1 rfl (enters_of Tryz.func40 (by kernel_rfl) rfl) (fun _ => rfl)
  (fun X Y k hi hk h1 h2 => hi.1.block k hk (hoff k (by omega)).1)
  (fun pre X Y h hi => h.it q hi)
  (fun pre X Y h hr => h.rest hr (fun k hk => ⟨hoff k (by omega), by omega, by omega, by omega⟩))
  (fun X Y Z hk hr => hk.trans (hr.mono fun k h => .inr (by omega)))
  (fun X Y h hr => h.far hr (fun k hk => hoff k (by omega)))
  (fun x W => (Below.refl _ _).alloc (Nat.le_refl _) _)
  (fun J W hb hl hG hJ => hstep J W _ hb hG hJ)
  hI0 ?_ ?_ ?_
 ·intro x W K hKK
  obtain ⟨k', p', a', c'⟩ := x
  dsimp only [evA, Mc.evC] at hKK ⊢
  gi_wp2
  refine Eq.mp (congrArg (fun z => K z (W.alloc (.cells #[.int .i64 k', .int .i64 p', .int .i64 a', .int .i64 c'] 49))) ?_) hKK
  kernel_rfl
 ·intro pre x W W2 hi hpre hl hr
  have hpl : pre.length + 1 ≤ bud := by have := hpre.length_le; have := HLN.out; simp at *; omega
  obtain ⟨k', p', a', c'⟩ := x
  have hE : Blk W2 W.heap.size 49 4 #[.int .i64 k', .int .i64 p', .int .i64 a', .int .i64 c'] := (Blk.new' W 49 #[.int .i64 k', .int .i64 p', .int .i64 a', .int .i64 c'] W.heap.size rfl rfl : Blk _ _ _ 4 _).rest hr (by show ¬ W.heap.size = W0.heap.size + 1; omega)
  have hW2 : W.heap.size + 1 ≤ W2.heap.size := by have := hr.size; simp only [World.size_alloc] at this; omega
  have hI2 := (hi.rest (Z := fun _ => False) (Rest.of ((Below.refl W.heap.size W).alloc (Nat.le_refl _) (.cells (Mc.evC ⟨k', p', a', c'⟩) 49))) (fun _ h => h.elim)).rest hr (fun k hk => ⟨hoff k (by omega), by omega, by omega, by omega⟩)
  have hR2 : Rest (fun k => k = w1.heap.size ∨ W0.heap.size ≤ k) W W2 := (Rest.of ((Below.refl _ _).alloc (Nat.le_refl _) _)).trans (hr.mono fun k h => .inr (by omega))
  obtain ⟨v, hv, hrow⟩ := hI2.box
  have hmm := hI2.mac
  have hbb := hI2.bel
  have hev := evCs_app pre ⟨k', p', a', c'⟩
  have hla : (pre ++ [(⟨k', p', a', c'⟩ : Mc.Ev)]).length = pre.length + 1 := by simp
  have hc := hv.cell
  have HMM := Lib.hid hmm
  have HBB := Lib.hid hbb
  have HR2 := Lib.hid hR2
  have HEV := Lib.hid hev
  have HLA := Lib.hid hla
  have HV := Lib.hid hv
  have HROW := Lib.hid hrow
  have HPL := Lib.hid hpl
  have HE := Lib.hid hE
  clear hi hr hpre hI2 hmm hbb hR2 hev hla hv hrow hpl hE hM0 hI3 hBx hI0 hstep hbl0 HLN
  dsimp only [evA, Mc.evC]
  have HSZ := Lib.hid hsz
  clear hsz
  gi_wp2_with (first | ((with_reducible refine wpListIn_load_blk evT HE.out ?_ ?_); exact rfl) | (gi_at_builtin; refine wpListIn_append_own _ rfl _ _ 36 rfl (W0.heap.size + 2) 49 i0 (.agg #[.int .i64 0, .int .i64 0, .int .i64 0, .int .i64 0]) 4 32 Tryz.underlying36 hi hz0 hz1 hz2 rfl (by decide) _ _ _ rfl (HROW.out.alloc _) ⟨W2.heap.size, 0, none⟩ 1 1 [.int .i64 k', .int .i64 p', .int .i64 a', .int .i64 c'] rfl rfl (cell4_new _ _ _ _ _ _) (by simp [Value.oneCell']) (by have := HPL.out; unfold maxLen; omega) (by have := HPL.out; omega) (by simp only [World.size_alloc]; omega) ?_; intro v' w4 hown' hgrow _; obtain ⟨g', cap', rfl⟩ := ownsRow_succ hown'; have hv4 := (HV.out.alloc _).kept hgrow (HV.out.not_row (by decide) HROW.out); have hc4 := hv4.cell; have hf4 := hv4.frozen; have HOWN := Lib.hid hown'; have HGR := Lib.hid hgrow; have HV4 := Lib.hid hv4; clear hown' hgrow hv4))
  have hsz := HSZ.out
  have hgr := HGR.out
  have hvb : ∀ k, v.ownBlock = some k → W0.heap.size + 2 ≤ k := fun k hk => (HROW.out.lt k hk).1
  have r1 : Rest (fun k => W0.heap.size + 2 ≤ k) W2 w4 := (Rest.of ((Below.refl _ _).alloc (Nat.le_refl _) _)).trans (rest_grown hgr hvb)
  have r2 := rest_setCell (X := fun k => k = w1.heap.size) w4 ⟨w1.heap.size, 0, none⟩ (.slice (some ⟨g', 0, none⟩) (pre.length + 1) cap') rfl
  have r3 : Rest (fun k => k = w1.heap.size ∨ W0.heap.size + 2 ≤ k) W2 (w4.setCell ⟨w1.heap.size, 0, none⟩ (.slice (some ⟨g', 0, none⟩) (pre.length + 1) cap')) := (r1.mono fun k h => .inr h).trans (r2.mono fun k h => .inl h)
  have hown5 := ownsRow_rest HOWN.out r2 (fun k hk => by omega)
  obtain ⟨m, hm⟩ := HMM.out
  refine ⟨⟨⟨m, hm.far r3 (fun k hk => hoff k (by omega))⟩, ⟨_, HV4.out.set _, ?_⟩, HBB.out.trans (rest_below r3 HBB.out.size (fun k hk => by omega))⟩, HR2.out.trans (r3.mono fun k h => by omega), r3.block _ (by omega) (by omega), r3.block _ (by omega) (by omega)⟩
  rw [HLA.out, HEV.out]
  exact hown5
 ·intro W hi hf hD
  obtain ⟨v, hv, hrow⟩ := hi.box
  have hb := hi.bel
  have hc := hv.cell
  obtain ⟨pp, mm, cc, hvv⟩ : ∃ pp mm cc, v = .slice pp mm cc := by
   rcases hrow.2 with ⟨rfl, _⟩ | ⟨g, cap, cur, rfl, _⟩ <;> exact ⟨_, _, _, rfl⟩
  subst hvv
  have HROW := Lib.hid hrow
  have HB := Lib.hid hb
  clear hi hf hI0 hM0 hI3 hBx hstep hv hrow hb hbl0 HLN
  gi_wp2
  refine ⟨by simp, .inl ⟨_, _, rfl, run_takeDeferred hD, ?_⟩⟩
  have hput : Rest (fun k => k = W0.heap.size) W (W.putObj W0.heap.size (.deferred none)) := ⟨rfl, rfl, rfl, by simp, fun k _ hx => World.putObj_heap_other hx⟩
  exact ⟨.tuple #[.slice pp mm cc, .int .i64 0], by simp [results, Tryz.results13, go_sem], _, rfl, ownsRow_down (ownsRow_rest HROW.out hput (fun k hk => by omega)) (by omega), HB.out.trans (rest_below hput HB.out.size (fun k hk => by omega))⟩
end Go.Proofs.YthciobjklhkkcaaGreat
