/-
 Stage 9, for MachineSkips: Trace as a law calls it; events in a row; registers compared.
-/
import Derived.DeepKeys
import Derived.Laws.OwnMore
import Derived.Test.YthciobjklhkkcaaGreatMachT
import Derived.Test.YthciobjklhkkcaaGreatMachW
namespace Go.Proofs.YthciobjklhkkcaaGreat
open Go.ChangeShapes Go.WideShapes Go.ChangeAt Go.RowKit Go.Shelf
set_option maxHeartbeats 8000000
set_option maxRecDepth 10000
set_option linter.unusedVariables false
set_option linter.unusedSimpArgs false

/-- what Trace tells: its events, its error -/
def Mc.trc (img inp : ByteArray) (bud : Int) : List Mc.Ev × Int :=
 if Mc.newE img inp = 0 then (if 0 ≤ bud ∧ bud ≤ 1048576 then ((Mc.ran img inp Mc.none bud.toNat).2.1, 0) else ([], 2)) else ([], Mc.newE img inp)
theorem trace_any (n : Nat) (hn : 3 ≤ n) (img inp : ByteArray) (bud : Int) (w : World) :
  CallsIn Fence.wide n Tryz.prog 13 #[.string img, .string inp, .int .i64 bud] w fun e w' => ∃ v, e = .returned (.tuple #[v, .int .i64 (Mc.trc img inp bud).2]) ∧ w'.ownsRow w.heap.size 49 4 v (Mc.trc img inp bud).1.length (evCs (Mc.trc img inp bud).1) ∧ Below w.heap.size w w' := by
 have hok := @Im.parse_ok img
 unfold Mc.trc Mc.ran Mc.newE Mc.m0 Mc.sOf
 rcases hx : Im.parse img with ⟨⟨r, h, i, o, l, md⟩, E⟩
 rw [hx] at hok
 dsimp only at hok ⊢
 by_cases hE : E = 0
 rotate_left
 ·rw [if_neg hE, if_neg hE]
  exact trace_bad n (by omega) img inp bud E w hE (Lib.hid fun W => new_p img inp r h i o l md E W (Lib.hid hx) hE)
 subst hE
 rw [if_pos rfl]
 obtain ⟨hh, hr⟩ := hok rfl
 by_cases hg : My.err ⟨i, o, l, img, inp⟩ = 0
 rotate_left
 ·rw [if_neg hg]
  exact trace_bad n (by omega) img inp bud _ w hg (Lib.hid fun W => new_m img inp r h i o l md _ W (Lib.hid hx) hg (Lib.hid fun W => new_bad ⟨i, o, l, img, inp⟩ W (fun g => hg (My.err_good.2 g))))
 rw [if_pos hg]
 have CN := Lib.hid (fun W : World => new_y img inp r h i o l md W (Lib.hid hx) (Lib.hid (My.err_good.1 hg)))
 by_cases ha : 0 ≤ bud ∧ bud ≤ 1048576
 ·rw [if_pos ha]
  obtain ⟨b, rfl⟩ := Int.eq_ofNat_of_zero_le ha.1
  exact trace_y n hn img inp b _ h _ w (by omega) hh hr CN
 ·rw [if_neg ha]
  exact trace_arg n (by omega) img inp bud _ h _ w (by omega) CN
theorem trace_c (img inp : ByteArray) (bud : Int) (L : List Mc.Ev) (E : Int) (w : World) (h : Mc.trc img inp bud = (L, E)) :
  Calls Tryz.prog 13 #[.string img, .string inp, .int .i64 bud] w fun e w' => ∃ v, e = .returned (.tuple #[v, .int .i64 E]) ∧ w'.ownsRow w.heap.size 49 4 v L.length (evCs L) ∧ Below w.heap.size w w' := by
 have := callsIn_wide.1 (trace_any 3 (Nat.le_refl _) img inp bud w)
 rw [h] at this
 exact this
theorem evCs_get : ∀ (L : List Mc.Ev) (k : Nat) (v : Mc.Ev), L[k]? = some v → (evCs L)[k * 4]? = some (.int .i64 v.kind) ∧ (evCs L)[k * 4 + 1]? = some (.int .i64 v.pc) ∧ (evCs L)[k * 4 + 2]? = some (.int .i64 v.addr) ∧ (evCs L)[k * 4 + 3]? = some (.int .i64 v.cyc)
 | [], k, v, h => by simp at h
 | u :: L, 0, v, h => by
  have h' : u = v := by simpa using h
  subst h'
  exact ⟨rfl, rfl, rfl, rfl⟩
 | u :: L, k + 1, v, h => by
  have ih := evCs_get L k v (by simpa using h)
  have e : evCs (u :: L) = .int .i64 u.kind :: .int .i64 u.pc :: .int .i64 u.addr :: .int .i64 u.cyc :: evCs L := rfl
  rw [e, show (k + 1) * 4 = k * 4 + 1 + 1 + 1 + 1 by omega]
  simp only [List.getElem?_cons_succ]
  exact ih
theorem eqItems_same (d : Nat) (e : TypeId) (k : IntKind) (he : Tryz.prog.plainKey e = true) (hu : Tryz.prog.underlying e = some (.int k)) (xs : Array Value) (w : World) : ∀ (is : List Nat), (∀ i ∈ is, ∃ n, xs[i * 1]? = some (.int k n)) → (Op.eqItems (d + 1) e 1 xs xs is).run Tryz.prog w = .ok true w
 | [], _ => rfl
 | i :: is, h => by
  obtain ⟨n, hn⟩ := h i (List.mem_cons_self)
  have ih := eqItems_same d e k he hu xs w is (fun j hj => h j (List.mem_cons_of_mem _ hj))
  simp only [Op.eqItems, Sem.run_bind, run_part_plain w he hn, Result.andThen_ok, run_equalIn_int w d e k k n n hu, beq_self_eq_true, Bool.not_true, Bool.false_eq_true, if_false, ih]
theorem regs_eq (s : Cs.St) (w : World) : (Op.equalIn 10000 54 (.agg (Cs.regs s)) (.agg (Cs.regs s))).run Tryz.prog w = .ok true w := by
 have hpi : Tryz.prog.plainKey 3 = true := by kernel_rfl
 have hi : ∃ i, Tryz.prog.info? 3 = some i ∧ i.size = 1 := by
  have h : (Tryz.prog.info? 3).map (fun i => i.size) = some 1 := by kernel_rfl
  cases hq : Tryz.prog.info? 3 with
  | none => rw [hq] at h; cases h
  | some i => rw [hq] at h; simp at h; exact ⟨i, rfl, h⟩
 obtain ⟨i, hi, hs⟩ := hi
 rw [run_equalIn_array w 9999 _ _ Tryz.underlying54 hi, show Tryz.prog.cellsOf 3 = 1 by kernel_rfl]
 refine eqItems_same 9998 _ .i64 hpi Tryz.underlying3 _ _ _ fun j hj => ?_
 rw [Nat.mul_one]
 exact ⟨_, Cs.regs_get s j (by simpa using hj)⟩
theorem blk_range {W : World} {b : Nat} {s : Cs.St} (h : Blk W b 56 20 (Cs.cells s)) : W.rangeAt b 0 (Cs.regs s).toList := fun j v hv => by
 rw [Nat.zero_add, h.cell j]
 exact Cs.regs_of s j v (by simpa using hv)
theorem yieldsIf_load_regs {ops : Array Oper} {S : World → Prop} {o : Oper} {a : Act} {b : Nat} {s : Cs.St} (hw : Region.wanted o (yielded ops a.tmps) = true) (ho : ldOp a o = some (54, .pointer (some ⟨b, 0, none⟩))) (hS : ∀ w, S w → Blk w b 56 20 (Cs.cells s)) : YieldsIf Tryz.prog ops S o (.agg (Cs.regs s)) a := by
 obtain ⟨x, ho, hx⟩ := ldOp_eq ho
 have := yieldsIf_load_mid (P := Tryz.prog) (ops := ops) (S := S) hw _ x ho b 0 hx (Cs.regs s).toList _ (fun w h => blk_range (hS w h)) Tryz.underlying54 rfl info_regs
 exact this
theorem and_add (a n : Int) : bits .and .i64 (wrap64 (a + n)) 4294967295 = Wd.add a n := by
 rw [Wd.and_ones]
 unfold Wd.add Wd.wrap wrap64
 omega
/-- a law that steps a machine beside a trace: the trace's row in block g -/
structure Mz (w : World) (g cc : Nat) (W : World) (b : Nat) (lo : My.Loc) (s : My.St) (hd : Int) (m : Mc.M) (L : List Mc.Ev) (n : Nat) : Prop where
 row : W.ownsRow w.heap.size 49 4 (.slice (some ⟨g, 0, none⟩) n cc) n (evCs L)
 mac : MacAt W b lo s hd m
 bel : Below w.heap.size w W
 mine : ∀ k, Mc.mine b lo k → g < k ∧ w.heap.size ≤ k
section
variable {w W W' : World} {g cc b n : Nat} {lo : My.Loc} {s : My.St} {hd : Int} {m m' : Mc.M} {L : List Mc.Ev}
theorem Mz.kept (h : Mz w g cc W b lo s hd m L n) (hb : Below W.heap.size W W') : Mz w g cc W' b lo s hd m L n :=
 ⟨h.row.kept (row := none) ⟨hb.os, hb.tape, hb.output, hb.size, fun k hk _ => hb.block k hk⟩ (.inr (by simp [Value.ownBlock])), h.mac.kept hb, h.bel.trans (hb.mono h.bel.size), h.mine⟩
theorem Mz.alloc (h : Mz w g cc W b lo s hd m L n) (o : Obj) : Mz w g cc (W.alloc o) b lo s hd m L n := h.kept ((Below.refl _ _).alloc (Nat.le_refl _) o)
theorem Mz.moved (h : Mz w g cc W b lo s hd m L n) (hr : Rest (Mc.mine b lo) W W') (hm : MacAt W' b lo s hd m') : Mz w g cc W' b lo s hd m' L n := by
 refine ⟨⟨h.row.1, ?_⟩, hm, h.bel.trans (rest_below hr h.bel.size (fun k hk => (h.mine k hk).2)), h.mine⟩
 rcases h.row.2 with hn | ⟨g', cap, cur, e, hb, hgg, rest⟩
 ·exact .inl hn
 ·refine .inr ⟨g', cap, cur, e, hb, ?_, rest⟩
  have hg : g' = g := by injection e with e1; injection e1 with e2; injection e2 with e3; exact e3.symm
  rw [hr.block g' (Array.getElem?_eq_some_iff.1 hgg).1 (fun x => by have := (h.mine g' x).1; omega)]
  exact hgg
theorem mz_row (h : Mz w g cc W b lo s hd m L n) {k : Nat} {v : Mc.Ev} (hk : L[k]? = some v) : W.cell? ⟨g, k * 4, none⟩ = some (.int .i64 v.kind) ∧ W.cell? ⟨g, k * 4 + 1, none⟩ = some (.int .i64 v.pc) ∧ W.cell? ⟨g, k * 4 + 2, none⟩ = some (.int .i64 v.addr) ∧ W.cell? ⟨g, k * 4 + 3, none⟩ = some (.int .i64 v.cyc) := by
 obtain ⟨e0, e1, e2, e3⟩ := evCs_get L k v hk
 have hl := h.row.1
 have hlt : ∀ j u, (evCs L)[j]? = some u → j < n * 4 := fun j u hu => by rw [← hl]; exact (List.getElem?_eq_some_iff.1 hu).1
 exact ⟨(h.row.cellAt _ (hlt _ _ e0)).trans e0, (h.row.cellAt _ (hlt _ _ e1)).trans e1, (h.row.cellAt _ (hlt _ _ e2)).trans e2, (h.row.cellAt _ (hlt _ _ e3)).trans e3⟩
end
theorem mz_start {w W W' : World} {g cc b n : Nat} {lo : My.Loc} {s : My.St} {hd : Int} {m : Mc.M} {L : List Mc.Ev} (hr : W.ownsRow w.heap.size 49 4 (.slice (some ⟨g, 0, none⟩) n cc) n (evCs L)) (hB : Below w.heap.size w W) (hM : MacAt W' b lo s hd m) (hmine : ∀ k, Mc.mine b lo k → W.heap.size ≤ k) (hb : Below W.heap.size W W') : Mz w g cc W' b lo s hd m L n :=
 ⟨hr.kept (row := none) ⟨hb.os, hb.tape, hb.output, hb.size, fun k hk _ => hb.block k hk⟩ (.inr (by simp [Value.ownBlock])), hM, hB.trans (hb.mono hB.size), fun k hk => by have h1 := hmine k hk; have h2 := (hr.lt g rfl).2; have h3 := hB.size; omega⟩
theorem Mc.trc_ok {img inp : ByteArray} {a : Nat} {L : List Mc.Ev} (h : Mc.trc img inp ((a : Int) + 1) = (L, 0)) (ha : a ≤ 5000) : Mc.newE img inp = 0 ∧ (Mc.ran img inp Mc.none (a + 1)).2.1 = L := by
 unfold Mc.trc at h
 split at h
 ·next h1 =>
  rw [if_pos (by omega), show ((a : Int) + 1).toNat = a + 1 by omega] at h
  exact ⟨h1, congrArg Prod.fst h⟩
 ·next h1 => exact absurd (congrArg Prod.snd h) h1
theorem Mc.pre_at {pre L : List Mc.Ev} {v : Mc.Ev} (h : (pre ++ [v]) <+: L) : L[pre.length]? = some v := by
 obtain ⟨t, rfl⟩ := h
 simp
theorem Mc.skip_fin (x : Mc.X) (m : Mc.M) (hd : m.done = false) : (Mc.act x m true).1.done = false ∧ (Mc.act x m true).1.st = { m.st with pc := (Mc.act x m true).1.st.pc } := by
 unfold Mc.act
 split
 ·exact ⟨hd, rfl⟩
 split
 ·exact ⟨hd, rfl⟩
 rw [if_pos rfl]
 exact ⟨hd, rfl⟩
theorem mz_ev {W : World} {b : Nat} {k p a c : Int} (h : Blk W b 49 4 #[.int .i64 k, .int .i64 p, .int .i64 a, .int .i64 c]) : W.cell? ⟨b, 0, none⟩ = some (.int .i64 k) ∧ W.cell? ⟨b, 1, none⟩ = some (.int .i64 p) ∧ W.cell? ⟨b, 2, none⟩ = some (.int .i64 a) ∧ W.cell? ⟨b, 3, none⟩ = some (.int .i64 c) := ⟨h.cell 0, h.cell 1, h.cell 2, h.cell 3⟩
theorem mz_st {W : World} {b : Nat} {s : Cs.St} (h : Blk W b 56 20 (Cs.cells s)) : W.cell? ⟨b, 15, none⟩ = some (.int .i64 s.pc) ∧ W.cell? ⟨b, 16, none⟩ = some (.bool s.n) ∧ W.cell? ⟨b, 17, none⟩ = some (.bool s.z) ∧ W.cell? ⟨b, 18, none⟩ = some (.bool s.c) ∧ W.cell? ⟨b, 19, none⟩ = some (.bool s.v) := ⟨h.cell 15, h.cell 16, h.cell 17, h.cell 18, h.cell 19⟩
theorem mz_flags {s t : Cs.St} {x : Int} (h : t = { s with pc := x }) : Cs.regs t = Cs.regs s ∧ t.n = s.n ∧ t.z = s.z ∧ t.c = s.c ∧ t.v = s.v := by subst h; exact ⟨rfl, rfl, rfl, rfl, rfl⟩
theorem row_slice {W : World} {base : Nat} {e : TypeId} {size : Nat} {v : Value} {n : Nat} {xs : List Value} (h : W.ownsRow base e size v n xs) : ∃ p c, v = .slice p n c := by
 rcases h.2 with ⟨rfl, h0⟩ | ⟨g, cap, cur, rfl, _⟩
 ·exact ⟨none, 0, by rw [h0]⟩
 ·exact ⟨_, _, rfl⟩
end Go.Proofs.YthciobjklhkkcaaGreat
