/-
 Package machine: what Run returns.
-/
import Derived.Sort.QuietIn
import Derived.Test.YthciobjklhkkcaaGreatMachP
namespace Go.Proofs.YthciobjklhkkcaaGreat
open Go.ChangeShapes Go.WideShapes Go.ChangeAt Go.RowKit Go.Shelf
set_option maxHeartbeats 8000000
set_option maxRecDepth 10000
set_option linter.unusedVariables false
set_option linter.unusedSimpArgs false
attribute [local go_sem] Oper.semAt_some

section
variable {F : Fence} {n : Nat} {ops : Array Oper} {rest : List Oper} {o : Oper} {a : Act} {w : World} {Q : Exit → Act → World → Prop} {K : Act → World → Prop} {b k : Nat} {t : TypeId} {cs ds : Array Value}
theorem wpListIn_load_blk (T : StructT t k) (h : Blk w b t k cs) (ho : ldOf a o = some (t, .pointer (some ⟨b, 0, none⟩)))
  (hk : wpListIn F n Tryz.prog ops Q rest (a.put o.dst (.agg cs)) w) : wpListIn F n Tryz.prog ops Q (o :: rest) a w := by
 obtain ⟨hg, x, ho, hx⟩ := ldOf_eq ho
 obtain ⟨fs, hu⟩ := T.und
 have hr := run_loadVar_row (P := Tryz.prog) w b _ t _ _ _ h.at' hu rfl (by rw [h.size]; exact T.info)
 refine wpListIn_plain hg fun K hK => ⟨fun f hf => ?_, ?_⟩
 ·simp [Oper.about, ho] at hf
 ·have e : o.semAt F.round a.eval = execOp a.eval o := by unfold Oper.semAt; rw [ho]; cases F.round <;> rfl
  rw [e]
  simp only [execOp, ho, hx, Instr.loadAt, Instr.sureAddr, Sem.run_bind, Sem.run_pure, Result.andThen_ok, hr]
  exact hK _ _ hk
theorem wpListIn_store_blk (T : StructT t k) (h : Blk w b t k cs) (G : Fits k ds) (ho : stOf a o = some (t, .pointer (some ⟨b, 0, none⟩), .agg ds))
  (hk : wpListIn F n Tryz.prog ops Q rest (a.put o.dst undef) (w.setRow b ds)) : wpListIn F n Tryz.prog ops Q (o :: rest) a w := by
 obtain ⟨hg, x, y, ho, hx, hy⟩ := stOf_eq ho
 have hr := run_storeVar_row (P := Tryz.prog) w b t t cs ds h.at' (by rw [G.size]; exact T.info) (by rw [h.size, G.size]) G.one
 refine wpListIn_plain hg fun K hK => ⟨fun f hf => ?_, ?_⟩
 ·simp [Oper.about, ho] at hf
 ·have e : o.semAt F.round a.eval = execOp a.eval o := by unfold Oper.semAt; rw [ho]; cases F.round <;> rfl
  rw [e]
  simp only [execOp, ho, hx, hy, Instr.storeAt, Instr.sureAddr, Sem.run_bind, Sem.run_pure, Result.andThen_ok, hr]
  exact hK _ _ hk
end
theorem leaves_blk2 {F : Fence} {k : Nat} {fn : Func} {tmps : Array Value} {R : Ending → World → Prop} {w : World} {p q : Tmp} {b n : Nat} {t : TypeId} {cs : Array Value} (T : StructT t n) (hr : fn.results = #[.cell p t, .tmp q]) (hp : tmps.getD p undef = .pointer (some ⟨b, 0, none⟩)) (h : Blk w b t n cs)
  (hR : R (.returned (.tuple #[.agg cs, tmps.getD q undef])) w) : LeavesInM F k Tryz.prog fn tmps R [] .returning w := by
 obtain ⟨fs, hu⟩ := T.und
 have hp' : tmps[p]?.getD undef = .pointer (some ⟨b, 0, none⟩) := by simpa using hp
 refine ⟨.tuple #[.agg cs, tmps.getD q undef], ?_, hR⟩
 simp [results, hr, hp', asAddr, run_loadVar_row w b _ _ _ _ _ h.at' hu rfl (by rw [h.size]; exact T.info)]
abbrev zeroR : Array Value := resC false 0 0 0 0 0 ⟨#[]⟩ ⟨#[]⟩ ⟨#[]⟩
theorem run_start (w : World) (kind sn reg bit : Int) {W2 : World} (hW : (w.alloc (.cells #[.int .i64 kind, .int .i64 sn, .int .i64 reg, .int .i64 bit] 23)).alloc (.cells zeroR 27) = W2) :
  Blk W2 w.heap.size 23 4 #[.int .i64 kind, .int .i64 sn, .int .i64 reg, .int .i64 bit] ∧ Blk W2 (w.heap.size + 1) 27 9 zeroR ∧ Below w.heap.size w W2 := by
 subst hW
 exact ⟨(Blk.new' _ _ _ _ rfl rfl : Blk _ _ _ 4 _).alloc _, Blk.new' _ _ _ _ (by simp) rfl, ((Below.refl _ _).alloc (Nat.le_refl _) _).alloc (by simp) _⟩
theorem run_bad (n : Nat) (h1 : 1 ≤ n) (img inp : ByteArray) (kind sn reg bit bud E : Int) (w : World) (hE : ¬ E = 0)
  (CN : Hid (∀ W : World, Calls Tryz.prog 17 #[.string img, .string inp] W fun e w' => e = .returned (.tuple #[.pointer none, .int .i64 E]) ∧ Below W.heap.size W w')) :
  CallsIn Fence.wide n Tryz.prog 9 #[.string img, .string inp, .agg #[.int .i64 kind, .int .i64 sn, .int .i64 reg, .int .i64 bit], .int .i64 bud] w fun e w' => e = .returned (.tuple #[.agg zeroR, .int .i64 E]) ∧ Below w.heap.size w w' := by
 have hE' : (E != 0) = true := by simpa using hE
 obtain ⟨W2, hW⟩ : ∃ W2, (w.alloc (.cells #[.int .i64 kind, .int .i64 sn, .int .i64 reg, .int .i64 bit] 23)).alloc (.cells zeroR 27) = W2 := ⟨_, rfl⟩
 have H2 := Lib.hid (run_start w kind sn reg bit hW)
 refine callsIn_of_wp_marks Tryz.func9 rfl trivial ?_ rfl
 simp only [Tryz.ntmps9, List.size_toArray, List.length_cons, List.length_nil, Nat.reduceAdd, Nat.reduceSub, Array.replicate_succ, Array.replicate_zero, List.push_toArray, List.append_toArray, List.nil_append, List.cons_append]
 gi_wp2_with (first | ((with_reducible refine wpListIn_store_blk resT H1.out (fits9 false 0 0 0 0 0 ⟨#[]⟩ ⟨#[]⟩ ⟨#[]⟩) ?_ ?_); exact rfl) | (refine ⟨trivial, ?_⟩; gi_at_call 17; refine (callsIn_wide.2 (CN.out _)).mono ?_; rintro e w1 ⟨rfl, hb1⟩; have H1 := Lib.hid (H2.out.2.1.kept hb1 |>.alloc (.cells #[.pointer none] 45)); have HB1 := Lib.hid (H2.out.2.2.trans (hb1.mono H2.out.2.2.size)); clear hb1))
 exact leaves_blk2 resT rfl rfl (H1.out.row rfl) ⟨rfl, below_setRow (HB1.out.alloc HB1.out.size _) (by omega) _⟩
/-- where Run stands behind New -/
structure Rn (w : World) (n c : Nat) (W : World) (b : Nat) (lo : My.Loc) (s : My.St) (hd : Int) (m : Mc.M) (fc : Array Value) : Prop where
 flt : Blk W n 23 4 fc
 out : Blk W (n + 1) 27 9 zeroR
 cm : W.cell? ⟨c, 0, none⟩ = some (.pointer (some ⟨b, 0, none⟩))
 mac : MacAt W b lo s hd m
 bel : Below n w W
 mine : ∀ k, Mc.mine b lo k → n + 1 + 1 ≤ k
 off : Mc.off b lo c
 lt : n + 1 < c
section
variable {w W W' : World} {n c b : Nat} {lo : My.Loc} {s : My.St} {hd : Int} {m m' : Mc.M} {fc : Array Value}
theorem Rn.kept (h : Rn w n c W b lo s hd m fc) (hb : Below W.heap.size W W') : Rn w n c W' b lo s hd m fc :=
 ⟨h.flt.kept hb, h.out.kept hb, by rw [hb.cell (cell_lt h.cm)]; exact h.cm, h.mac.kept hb, h.bel.trans (hb.mono (by have := h.flt.lt; omega)), h.mine, h.off, h.lt⟩
end
theorem rn_start {w W2 w1 : World} {b : Nat} {lo : My.Loc} {s : My.St} {hd : Int} {m : Mc.M} {fc : Array Value} (h : Blk W2 w.heap.size 23 4 fc ∧ Blk W2 (w.heap.size + 1) 27 9 zeroR ∧ Below w.heap.size w W2) (hM : MacAt w1 b lo s hd m) (hmine : ∀ k, Mc.mine b lo k → W2.heap.size ≤ k) (hb : Below W2.heap.size W2 w1) :
  Rn w w.heap.size w1.heap.size (w1.alloc (.cells #[.pointer (some ⟨b, 0, none⟩)] 45)) b lo s hd m fc := by
 have l1 := h.2.1.lt
 have l2 := hb.size
 exact ⟨(h.1.kept hb).alloc _, (h.2.1.kept hb).alloc _, by simp [go_sem], hM.alloc _, (h.2.2.trans (hb.mono h.2.2.size)).alloc (by omega) _, fun k hk => by have := hmine k hk; omega, hM.newer (Nat.le_refl _), by omega⟩
/-- how many events are at the handler -/
def Mc.hnd (h : Int) (l : List Mc.Ev) : Int := (l.map fun v => if v.pc = h then (1 : Int) else 0).foldr (· + ·) 0
theorem sum_app (a b : List Int) : (a ++ b).foldr (· + ·) 0 = a.foldr (· + ·) 0 + b.foldr (· + ·) 0 := by
 induction a with
 | nil => simp
 | cons x a ih => simp only [List.cons_append, List.foldr_cons, ih]; omega
theorem Mc.cyc_app (l : List Mc.Ev) (v : Mc.Ev) : Mc.cyc (l ++ [v]) = Mc.cyc l + v.cyc := by
 unfold Mc.cyc; rw [List.map_append, sum_app]; simp
theorem Mc.hnd_app (h : Int) (l : List Mc.Ev) (v : Mc.Ev) : Mc.hnd h (l ++ [v]) = Mc.hnd h l + (if v.pc = h then 1 else 0) := by
 unfold Mc.hnd; rw [List.map_append, sum_app]; simp
theorem Mc.hnd_bd (h : Int) (l : List Mc.Ev) : 0 ≤ Mc.hnd h l ∧ Mc.hnd h l ≤ l.length := by
 unfold Mc.hnd
 induction l with
 | nil => simp
 | cons v l ih => simp only [List.map_cons, List.foldr_cons, List.length_cons]; push_cast; split <;> omega
theorem Mc.cyc_bd (l : List Mc.Ev) (hl : ∀ v ∈ l, 0 ≤ v.cyc ∧ v.cyc ≤ 12) : 0 ≤ Mc.cyc l ∧ Mc.cyc l ≤ 12 * l.length := by
 unfold Mc.cyc
 induction l with
 | nil => simp
 | cons v l ih =>
  have h1 := hl v (by simp)
  have h2 := ih (fun u hu => hl u (by simp [hu]))
  simp only [List.map_cons, List.foldr_cons, List.length_cons]; push_cast; omega
theorem Mc.cycles_bd (s : Cs.St) (i : Th.Ins) : 0 ≤ Cs.cycles s i ∧ Cs.cycles s i ≤ 12 := by
 unfold Cs.cycles
 (repeat' split) <;> omega
theorem Mc.act_cyc (x : Mc.X) (m : Mc.M) (b : Bool) : 0 ≤ (Mc.act x m b).2.cyc ∧ (Mc.act x m b).2.cyc ≤ 12 := by
 unfold Mc.act
 split
 ·simp [Mc.trap]
 split
 ·simp [Mc.trap]
 split
 ·simp
 unfold Mc.does
 split
 ·simp [Mc.trap]
 ·exact Mc.cycles_bd _ _
theorem Mc.go_cyc (x : Mc.X) (f : Mc.F) : ∀ (n k : Nat) (m : Mc.M), ∀ v ∈ (Mc.go x f n k m).2.1, 0 ≤ v.cyc ∧ v.cyc ≤ 12
 | 0, _, _ => by simp [Mc.go]
 | n + 1, k, m => by
  cases h : m.done
  ·rw [Mc.go_no x f n k m h]
   intro v hv
   simp only [List.mem_cons] at hv
   rcases hv with rfl | hv
   ·exact Mc.act_cyc _ _ _
   ·exact Mc.go_cyc x f n (k + 1) _ v hv
  ·rw [Mc.go_yes x f _ k m h]; simp
abbrev rcOf (hd : Int) (pre : List Mc.Ev) : Array Value := resC false pre.length (Mc.cyc pre) (Mc.hnd hd pre) 0 0 ⟨#[]⟩ ⟨#[]⟩ ⟨#[]⟩
theorem rest_below {X : Nat → Prop} {w w' : World} (h : Rest X w w') {B : Nat} (hB : B ≤ w.heap.size) (hx : ∀ k, X k → B ≤ k) : Below B w w' :=
 ⟨h.os, h.tape, h.output, h.size, fun k hk => h.block k (Nat.lt_of_lt_of_le hk hB) (fun x => by have := hx k x; omega)⟩
/-- what Run's loop keeps -/
structure Ir (w : World) (n c d b : Nat) (lo : My.Loc) (s : My.St) (hd : Int) (rc : Array Value) (W : World) : Prop where
 mac : ∃ m, MacAt W b lo s hd m
 cm : W.cell? ⟨c, 0, none⟩ = some (.pointer (some ⟨b, 0, none⟩))
 res : Blk W d 27 9 rc
 out : Blk W (n + 1) 27 9 zeroR
 bel : Below n w W
structure Irs (w : World) (n c d b : Nat) (lo : My.Loc) : Prop where
 oc : Mc.off b lo c
 od : Mc.off b lo d
 oo : ¬ Mc.mine b lo (n + 1)
 ne : n + 1 ≠ d ∧ c ≠ d ∧ n ≤ d
 mine : ∀ k, Mc.mine b lo k → n + 1 + 1 ≤ k
section
variable {w W W' : World} {n c d b : Nat} {lo : My.Loc} {s : My.St} {hd : Int} {rc rc' : Array Value}
theorem Ir.it (h : Ir w n c d b lo s hd rc W) (q : Irs w n c d b lo) (hi : Mc.ItR b lo s hd W W') : Ir w n c d b lo s hd rc W' := by
 refine ⟨hi.2, by rw [hi.1.cell (cell_lt h.cm) q.oc.1]; exact h.cm, h.res.rest hi.1 q.od.1, h.out.rest hi.1 q.oo, ?_⟩
 exact h.bel.trans (rest_below hi.1 (by have := h.out.lt; omega) (fun k hk => by have := q.mine k hk; omega))
theorem Ir.rest {Z : Nat → Prop} (h : Ir w n c d b lo s hd rc W) (hr : Rest Z W W') (hz : ∀ k, Z k → Mc.off b lo k ∧ k ≠ c ∧ k ≠ d ∧ k ≠ n + 1 ∧ n ≤ k) : Ir w n c d b lo s hd rc W' := by
 obtain ⟨m, hm⟩ := h.mac
 refine ⟨⟨m, hm.far hr (fun k hk => (hz k hk).1)⟩, by rw [hr.cell (cell_lt h.cm) (fun z => (hz _ z).2.1 rfl)]; exact h.cm, h.res.rest hr (fun z => (hz _ z).2.2.1 rfl), h.out.rest hr (fun z => (hz _ z).2.2.2.1 rfl), ?_⟩
 exact h.bel.trans (rest_below hr (by have := h.out.lt; omega) (fun k hk => (hz k hk).2.2.2.2))
theorem Ir.set (h : Ir w n c d b lo s hd rc W) (q : Irs w n c d b lo) (k : Nat) (v : Value) (hc : rc.setIfInBounds k v = rc') : Ir w n c d b lo s hd rc' (W.setCell ⟨d, k, none⟩ v) := by
 obtain ⟨m, hm⟩ := h.mac
 have hr := rest_setCell (X := fun k => k = d) W ⟨d, k, none⟩ v rfl
 refine ⟨⟨m, hm.far hr (fun k hk => hk ▸ q.od)⟩, by rw [hr.cell (cell_lt h.cm) q.ne.2.1]; exact h.cm, hc ▸ h.res.set k v, h.out.rest hr q.ne.1, h.bel.setCell q.ne.2.2 _⟩
theorem Ir.handler (h : Ir w n c d b lo s hd rc W) : W.cell? ⟨b, 1, none⟩ = some (.int .i64 hd) := by obtain ⟨m, hm⟩ := h.mac; exact hm.handler
end
/-- what a run leaves -/
def Mc.resOf (s : My.St) (hd : Int) (m : Mc.M) (xs : List Mc.Ev) : Array Value := resC m.done xs.length (Mc.cyc xs) (Mc.hnd hd xs) (My.load s m.mem 537919488 4).1 (My.load s m.mem 538968064 4).1 (Mc.reg s m.mem 2) (Mc.reg s m.mem 3) (Mc.reg s m.mem 4)
theorem Mc.resOf_fits (s : My.St) (hd : Int) (m : Mc.M) (xs : List Mc.Ev) : Fits 9 (Mc.resOf s hd m xs) := fits9 _ _ _ _ _ _ _ _ _
theorem left_res (b : Nat) (l : My.Loc) (s : My.St) (hd : Int) (m : Mc.M) (xs : List Mc.Ev) (w : World) (hm : MacAt w b l s hd m) :
  Calls Tryz.prog 25 #[.pointer (some ⟨b, 0, none⟩), .agg (rcOf hd xs)] w fun e w' => e = .returned (.agg (Mc.resOf s hd m xs)) ∧ Below w.heap.size w w' := left_any b l s hd m _ _ _ w hm
end Go.Proofs.YthciobjklhkkcaaGreat
