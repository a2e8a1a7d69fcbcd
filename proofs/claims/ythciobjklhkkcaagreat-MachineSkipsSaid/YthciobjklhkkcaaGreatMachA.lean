/-
 Package machine: a machine as it lies in the world.
-/
import Derived.Deep.MidRow
import Derived.Test.YthciobjklhkkcaaGreatP07b
import Derived.Test.YthciobjklhkkcaaGreatP03a
import Derived.Test.YthciobjklhkkcaaGreatP07a
namespace Go.Proofs.YthciobjklhkkcaaGreat
open Go.ChangeShapes Go.WideShapes Go.ChangeAt Go.RowKit
set_option linter.unusedVariables false
set_option linter.unusedSimpArgs false

/-- the cells of a machine -/
def Mc.cells (fl : ByteArray) (h : Int) (p : Nat) (m : Mc.M) : Array Value := #[.string fl, .int .i64 h, .pointer (some ⟨p, 0, Option.none⟩), .int .i64 (m.st.r 0), .int .i64 (m.st.r 1), .int .i64 (m.st.r 2), .int .i64 (m.st.r 3), .int .i64 (m.st.r 4), .int .i64 (m.st.r 5), .int .i64 (m.st.r 6), .int .i64 (m.st.r 7), .int .i64 (m.st.r 8), .int .i64 (m.st.r 9), .int .i64 (m.st.r 10), .int .i64 (m.st.r 11), .int .i64 (m.st.r 12), .int .i64 (m.st.r 13), .int .i64 (m.st.r 14), .int .i64 m.st.pc, .bool m.st.n, .bool m.st.z, .bool m.st.c, .bool m.st.v, .bool m.done]
/-- what memory tells a machine -/
def Mc.xOf (s : My.St) (h : Int) : Mc.X := ⟨s.fl, h, My.fe s, My.num, My.put⟩
/-- a machine in block b, its memory where l says -/
structure MacAt (W : World) (b : Nat) (l : My.Loc) (s : My.St) (h : Int) (m : Mc.M) : Prop where
 blk : W.heap[b]? = some (.cells (Mc.cells s.fl h l.p m) 71 (0, 0))
 mem : MemAt W l s m.mem
 good : My.good s
 np : b ≠ l.p ∧ b ≠ l.ra.block ∧ b ≠ l.ba ∧ ¬ l.own b
/-- the blocks that a machine's steps write -/
def Mc.mine (b : Nat) (l : My.Loc) : Nat → Prop := fun k => k = b ∨ l.own k
def Mc.over (C : Array Value) : Nat → List Value → Array Value
 | _, [] => C
 | o, v :: r => Mc.over (C.setIfInBounds o v) (o + 1) r
theorem Mc.over_st (fl : ByteArray) (h : Int) (p : Nat) (m : Mc.M) (t : Cs.St) : Mc.over (Mc.cells fl h p m) 3 (Cs.cells t).toList = Mc.cells fl h p { m with st := t } := by kernel_rfl
theorem Mc.cut_st (fl : ByteArray) (h : Int) (p : Nat) (m : Mc.M) : ((Mc.cells fl h p m).extract 3 (3 + 20)).toList = (Cs.cells m.st).toList := by kernel_rfl
theorem setCells_row (b : Nat) (t : TypeId) : ∀ (vs : List Value) (o : Nat) (C : Array Value) (w : World), w.heap[b]? = some (.cells C t (0, 0)) →
  (w.setCells b o vs).heap[b]? = some (.cells (Mc.over C o vs) t (0, 0))
 | [], _, _, _, h => h
 | v :: r, o, C, w, h => by
  rw [World.setCells, Mc.over]
  exact setCells_row b t r (o + 1) _ _ (heap_setCell_same w b o _ _ v h)
theorem setCells_other (b : Nat) (k : Nat) (hk : k ≠ b) : ∀ (vs : List Value) (o : Nat) (w : World), (w.setCells b o vs).heap[k]? = w.heap[k]?
 | [], _, _ => rfl
 | v :: r, o, w => by
  rw [World.setCells, setCells_other b k hk r (o + 1) _]
  exact Below.heap_setCell _ _ _ _ hk
theorem rest_setCell {X : Nat → Prop} (w : World) (a : Addr) (v : Value) (hx : X a.block) : Rest X w (w.setCell a v) :=
 ⟨rfl, rfl, rfl, by simp, fun k hk hn => Below.heap_setCell _ _ _ _ (fun e => hn (e ▸ hx))⟩
theorem rest_setCells {X : Nat → Prop} (b : Nat) (hx : X b) : ∀ (vs : List Value) (o : Nat) (w : World), Rest X w (w.setCells b o vs)
 | [], _, w => Rest.refl X w
 | v :: r, o, w => (rest_setCell w ⟨b, o, none⟩ v hx).trans (rest_setCells b hx r (o + 1) _)
theorem Rest.mono {X Y : Nat → Prop} {w w' : World} (h : Rest X w w') (hs : ∀ k, X k → Y k) : Rest Y w w' :=
 ⟨h.os, h.tape, h.output, h.size, fun k hk hn => h.block k hk (fun x => hn (hs k x))⟩
section
variable {W W' : World} {b : Nat} {l : My.Loc} {s : My.St} {hd : Int} {m m' : Mc.M} {M : Int → UInt8}
theorem MemAt.other (h : MemAt W l s M) (nb : b ≠ l.p ∧ b ≠ l.ra.block ∧ b ≠ l.ba ∧ ¬ l.own b) (hh : ∀ k, k ≠ b → W'.heap[k]? = W.heap[k]?) : MemAt W' l s M := by
 have hc : ∀ p : Addr, p.block ≠ b → W'.cell? p = W.cell? p := fun p hp => World.cell?_of_block (w := W) (hh _ hp)
 obtain ⟨n1, n2, n3, n4⟩ := nb
 refine ⟨by rw [hc _ (Ne.symm n1)]; exact h.f0, by rw [hc _ (Ne.symm n1)]; exact h.f1, ?_, fun j hj => by rw [hc _ (Ne.symm n3)]; exact h.row j hj, fun j hj => ?_, h.np, h.ne⟩
 ·refine ⟨some l.ra, l.rc, rfl, fun j hj => ⟨l.ra, rfl, fun i u hu => ?_⟩⟩
  rw [hc _ (fun e => n2 (by rw [← e, add_block, add_block]))]
  exact h.reg j hj i u hu
 ·unfold RowAt
  rw [hh _ (fun e => n4 ⟨j, hj, e⟩)]
  exact h.bytes j hj
theorem MacAt.lt (h : MacAt W b l s hd m) : b < W.heap.size := (Array.getElem?_eq_some_iff.1 h.blk).1
theorem MacAt.kept (h : MacAt W b l s hd m) (hb : Below W.heap.size W W') : MacAt W' b l s hd m := ⟨by rw [hb.block b h.lt]; exact h.blk, h.mem.kept hb, h.good, h.np⟩
theorem MacAt.alloc (h : MacAt W b l s hd m) (o : Obj) : MacAt (W.alloc o) b l s hd m := h.kept ((Below.refl _ _).alloc (Nat.le_refl _) o)
theorem MacAt.drew (h : MacAt W b l s hd m) : MacAt W.drew b l s hd m := h.kept (Below.refl _ _).drew
theorem MacAt.drewN (h : MacAt W b l s hd m) (n : Nat) : MacAt (W.drewN n) b l s hd m := h.kept (below_drewN (Below.refl _ _) n)
theorem MacAt.cell (h : MacAt W b l s hd m) (k : Nat) : W.cell? ⟨b, k, none⟩ = (Mc.cells s.fl hd l.p m)[k]? := cell_of_row W b k _ _ _ h.blk
theorem MacAt.flash (h : MacAt W b l s hd m) : W.cell? ⟨b, 0, none⟩ = some (.string s.fl) := h.cell 0
theorem MacAt.handler (h : MacAt W b l s hd m) : W.cell? ⟨b, 1, none⟩ = some (.int .i64 hd) := h.cell 1
theorem MacAt.memp (h : MacAt W b l s hd m) : W.cell? ⟨b, 2, none⟩ = some (.pointer (some ⟨l.p, 0, none⟩)) := h.cell 2
theorem MacAt.pc (h : MacAt W b l s hd m) : W.cell? ⟨b, 18, none⟩ = some (.int .i64 m.st.pc) := h.cell 18
theorem MacAt.done (h : MacAt W b l s hd m) : W.cell? ⟨b, 23, none⟩ = some (.bool m.done) := h.cell 23
theorem MacAt.open (h : MacAt W b l s hd m) (k : Nat) : W.frozen? ⟨b, k, none⟩ = false := by have := h.blk; simp [World.frozen?, this]
theorem MacAt.range (h : MacAt W b l s hd m) : W.rangeAt b 3 (Cs.cells m.st).toList := by
 have e := World.rangeAt_of_block h.blk 3 20
 rw [Mc.cut_st] at e
 exact e
theorem MacAt.there (h : MacAt W b l s hd m) : W.there b 3 20 := fun j hj => by
 refine ⟨?_, h.open _⟩
 have := h.range.isSome j (by show j < 20; exact hj)
 exact this
theorem MacAt.upd (h : MacAt W b l s hd m) (hb : W'.heap[b]? = some (.cells (Mc.cells s.fl hd l.p m') 71 (0, 0))) (ho : ∀ k, k ≠ b → W'.heap[k]? = W.heap[k]?) (hm : m'.mem = m.mem) : MacAt W' b l s hd m' :=
 ⟨hb, by rw [hm]; exact h.mem.other h.np ho, h.good, h.np⟩
theorem MacAt.setSt (h : MacAt W b l s hd m) (t : Cs.St) : MacAt (W.setCells b 3 (Cs.cells t).toList) b l s hd { m with st := t } :=
 h.upd (by rw [setCells_row b _ _ 3 _ W h.blk, Mc.over_st]) (fun k hk => setCells_other b k hk _ _ _) rfl
theorem MacAt.setPc (h : MacAt W b l s hd m) (x : Int) : MacAt (W.setCell ⟨b, 18, none⟩ (.int .i64 x)) b l s hd { m with st := { m.st with pc := x } } :=
 h.upd (heap_setCell_same W b 18 _ _ _ h.blk) (fun k hk => Below.heap_setCell _ _ _ _ hk) rfl
theorem MacAt.setDone (h : MacAt W b l s hd m) (x : Bool) : MacAt (W.setCell ⟨b, 23, none⟩ (.bool x)) b l s hd { m with done := x } :=
 h.upd (heap_setCell_same W b 23 _ _ _ h.blk) (fun k hk => Below.heap_setCell _ _ _ _ hk) rfl
/-- another block's cell is stored -/
theorem MacAt.other (h : MacAt W b l s hd m) (a : Addr) (v : Value) (hn : ¬ Mc.mine b l a.block) (h1 : a.block ≠ l.p) (h2 : a.block ≠ l.ra.block) (h3 : a.block ≠ l.ba) : MacAt (W.setCell a v) b l s hd m :=
 ⟨by rw [Below.heap_setCell _ _ _ _ (fun e => hn (.inl e.symm))]; exact h.blk, h.mem.other (b := a.block) ⟨h1, h2, h3, fun e => hn (.inr e)⟩ (fun k hk => Below.heap_setCell _ _ _ _ hk), h.good, h.np⟩
/-- what memory does -/
theorem MacAt.memory (h : MacAt W b l s hd m) (hr : Rest l.own W W') (hM : MemAt W' l s M) : MacAt W' b l s hd { m with mem := M } :=
 ⟨by rw [hr.block b h.lt h.np.2.2.2]; exact h.blk, hM, h.good, h.np⟩
end
/-- a block that is newer than a machine is none of its own -/
theorem MacAt.newer {W : World} {b : Nat} {l : My.Loc} {s : My.St} {hd : Int} {m : Mc.M} (h : MacAt W b l s hd m) {k : Nat} (hk : W.heap.size ≤ k) : ¬ Mc.mine b l k ∧ k ≠ l.p ∧ k ≠ l.ra.block ∧ k ≠ l.ba := by
 have h0 := h.lt
 have h1 := cell_lt h.mem.f0
 have h2 := cell_lt (h.mem.reg 0 (by decide) 0 _ rfl)
 have h3 := cell_lt (h.mem.row 0 (by decide))
 rw [add_zero', add_block] at h2
 refine ⟨?_, fun e => ?_, fun e => ?_, fun e => ?_⟩
 ·rintro (rfl | ho)
  ·omega
  ·obtain ⟨i, hi, rfl⟩ := ho; have := (h.mem.bytes i hi).lt; omega
 all_goals (subst e; simp only at h1 h2 h3; omega)
section
variable {P : Program} {ops : Array Oper} {rest : List Oper} {o : Oper} {a : Act} {w : World} {Q : Exit → Act → World → Prop} {K : Act → World → Prop} {b : Nat} {l : My.Loc} {s : My.St} {hd : Int} {m : Mc.M}
theorem wp_load_mac (h : MacAt w b l s hd m) (ho : ldOp a o = some (56, .pointer (some ⟨b, 3, none⟩)))
  (k : K (a.put o.dst (.agg (Cs.cells m.st))) w) : Oper.wp Tryz.prog o a w K Q := by
 obtain ⟨x, ho, hx⟩ := ldOp_eq ho
 have := wp_load_mid (P := Tryz.prog) (op := o) (a := a) (w := w) (K := K) (Q := Q) _ x ho b 3 hx (Cs.cells m.st).toList _ h.range Tryz.underlying56 rfl info_state
 exact this k
theorem wpList_load_mac (h : MacAt w b l s hd m) (ho : ldOf a o = some (56, .pointer (some ⟨b, 3, none⟩)))
  (k : wpList Tryz.prog ops Q rest (a.put o.dst (.agg (Cs.cells m.st))) w) : wpList Tryz.prog ops Q (o :: rest) a w := by
 obtain ⟨hg, x, ho, hx⟩ := ldOf_eq ho
 have := wpList_load_mid (P := Tryz.prog) (ops := ops) (rest := rest) (Q := Q) (op := o) (a := a) (w := w) hg _ x ho b 3 hx (Cs.cells m.st).toList _ h.range Tryz.underlying56 rfl info_state
 exact this k
theorem wpList_store_mac (h : MacAt w b l s hd m) (t : Cs.St) (ho : stOf a o = some (56, .pointer (some ⟨b, 3, none⟩), .agg (Cs.cells t)))
  (k : ∀ w', MacAt w' b l s hd { m with st := t } → Rest (Mc.mine b l) w w' → wpList Tryz.prog ops Q rest (a.put o.dst undef) w') : wpList Tryz.prog ops Q (o :: rest) a w := by
 obtain ⟨hg, x, y, ho, hx, hy⟩ := stOf_eq ho
 exact wpList_store_mid (P := Tryz.prog) hg _ x y ho b 3 (Cs.cells t) hx hy (h.there) info_state (Cs.cells_one t) (k _ (h.setSt t) (rest_setCells b (.inl rfl) _ _ _))
end
end Go.Proofs.YthciobjklhkkcaaGreat
