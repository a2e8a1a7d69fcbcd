/-
  Blocks of a struct's cells: how they are loaded and stored whole; a token and an error as such blocks.
-/
import Derived.Deep.MidRow
import Derived.Deep.WholeRow
import Derived.Deep.QuietTactic
import Derived.StillTailTactics
import Derived.Test.YtknbnfnibdbokaaDoorLxF
namespace Go.Proofs.YtknbnfnibdbokaaDoor
open Go.ChangeShapes Go.WideShapes Go.ChangeAt Go.RowKit
set_option linter.unusedVariables false
set_option linter.unusedSimpArgs false

/-- an operation whose guard is met, in a long region: without reckoning the region anew -/
theorem wpList_take {P : Program} {ops : Array Oper} {Q : Exit → Act → World → Prop} {a : Act} {w : World} {rest : List Oper} {o : Oper}
    (hw : Region.wanted o (yielded ops a.tmps) = true) (h : ∀ K : Act → World → Prop, (∀ a w, wpList P ops Q rest a w → K a w) → o.wp P a w K Q) : wpList P ops Q (o :: rest) a w :=
  wpList_step fun K hK => by simp only [hw, if_true]; exact h K hK
/-- a block of a struct's cells, that may be written -/
structure Blk (W : World) (b : Nat) (t : TypeId) (n : Nat) (cs : Array Value) : Prop where
 at' : W.heap[b]? = some (.cells cs t (0, 0))
 size : cs.size = n
/-- a struct's type of n cells -/
structure StructT (t : TypeId) (n : Nat) : Prop where
 und : ∃ fs, Tryd.prog.underlying t = some (.struct fs)
 info : (Tryd.prog.info? t).map (·.size) = some n
/-- cells that fit -/
structure Fits (n : Nat) (cs : Array Value) : Prop where
 size : cs.size = n
 one : cs.all (·.oneCell') = true
theorem tokT : StructT 37 4 := ⟨⟨_, Tryd.underlying37⟩, by kernel_rfl⟩
theorem badT : StructT 25 2 := ⟨⟨_, Tryd.underlying25⟩, by kernel_rfl⟩
theorem rbadT : StructT 29 2 := ⟨⟨_, Tryd.underlying29⟩, by kernel_rfl⟩
/-- what an operation loads, from where; what it stores, where: if it does -/
def ldOp (a : Act) (o : Oper) : Option (TypeId × Value) := match o.op with | .load t x => some (t, a.eval x) | _ => none
def ldOf (a : Act) (o : Oper) : Option (TypeId × Value) := match o.guard with | none => ldOp a o | some _ => none
def stOf (a : Act) (o : Oper) : Option (TypeId × Value × Value) := match o.guard, o.op with | none, .store t x y => some (t, a.eval x, a.eval y) | _, _ => none
theorem ldOp_eq {a : Act} {o : Oper} {t : TypeId} {v : Value} (h : ldOp a o = some (t, v)) : ∃ x, o.op = .load t x ∧ a.eval x = v := by
  unfold ldOp at h
  split at h
  · next t' x hx => simp at h; exact ⟨x, by rw [hx, h.1], h.2⟩
  · cases h
theorem ldOf_eq {a : Act} {o : Oper} {t : TypeId} {v : Value} (h : ldOf a o = some (t, v)) : o.guard = none ∧ ∃ x, o.op = .load t x ∧ a.eval x = v := by
  unfold ldOf at h
  split at h
  · next hg => exact ⟨hg, ldOp_eq h⟩
  · cases h
theorem stOf_eq {a : Act} {o : Oper} {t : TypeId} {u v : Value} (h : stOf a o = some (t, u, v)) : o.guard = none ∧ ∃ x y, o.op = .store t x y ∧ a.eval x = u ∧ a.eval y = v := by
  unfold stOf at h
  split at h
  · next t' x y hg hx => simp at h; exact ⟨hg, x, y, by rw [hx, h.1], h.2.1, h.2.2⟩
  · cases h
section
variable {W W' : World} {b n : Nat} {t : TypeId} {cs ds : Array Value}
theorem Blk.lt (h : Blk W b t n cs) : b < W.heap.size := (Array.getElem?_eq_some_iff.1 h.at').1
theorem Blk.kept (h : Blk W b t n cs) (hb : Below W.heap.size W W') : Blk W' b t n cs := ⟨by rw [hb.block b h.lt]; exact h.at', h.size⟩
theorem Blk.alloc (h : Blk W b t n cs) (o : Obj) : Blk (W.alloc o) b t n cs := h.kept ((Below.refl _ _).alloc (Nat.le_refl _) o)
theorem Blk.new (W : World) (t : TypeId) (cs : Array Value) : Blk (W.alloc (.cells cs t)) W.heap.size t cs.size cs := ⟨heap_alloc_last W _, rfl⟩
theorem Blk.new' (W : World) (t : TypeId) (cs : Array Value) (k : Nat) (hk : k = W.heap.size) (hn : cs.size = n) : Blk (W.alloc (.cells cs t)) k t n cs := ⟨hk ▸ heap_alloc_last W _, hn⟩
theorem Blk.row (h : Blk W b t n cs) (hd : ds.size = n) : Blk (W.setRow b ds) b t n ds := ⟨setRow_heap W b _ _ _ _ h.at', hd⟩
theorem Blk.otherRow (h : Blk W b t n cs) (g : Nat) (ds : Array Value) (hne : b ≠ g) : Blk (W.setRow g ds) b t n cs := ⟨by rw [setRow_other _ _ _ _ hne]; exact h.at', h.size⟩
theorem Blk.other (h : Blk W b t n cs) (a : Addr) (v : Value) (hne : b ≠ a.block) : Blk (W.setCell a v) b t n cs := ⟨by rw [Below.heap_setCell _ _ _ _ hne]; exact h.at', h.size⟩
theorem Blk.cell (h : Blk W b t n cs) (k : Nat) : W.cell? ⟨b, k, none⟩ = cs[k]? := cell_of_row W b k _ _ _ h.at'
theorem Blk.open (h : Blk W b t n cs) (k : Nat) : W.frozen? ⟨b, k, none⟩ = false := by have := h.at'; simp [World.frozen?, this]
theorem Blk.set (h : Blk W b t n cs) (k : Nat) (v : Value) : Blk (W.setCell ⟨b, k, none⟩ v) b t n (cs.setIfInBounds k v) := ⟨heap_setCell_same W b k _ _ _ h.at', by simpa using h.size⟩
end
section
variable {ops : Array Oper} {rest : List Oper} {o : Oper} {a : Act} {w : World} {Q : Exit → Act → World → Prop} {K : Act → World → Prop} {b n : Nat} {t : TypeId} {cs ds : Array Value} {fn : Func} {R : Ending → World → Prop} {p q : Tmp}
theorem wp_load_blk (T : StructT t n) (h : Blk w b t n cs) (ho : ldOp a o = some (t, .pointer (some ⟨b, 0, none⟩)))
  (k : K (a.put o.dst (.agg cs)) w) : Oper.wp Tryd.prog o a w K Q := by
 obtain ⟨x, ho, hx⟩ := ldOp_eq ho
 obtain ⟨fs, hu⟩ := T.und
 exact wp_load_row _ x ho b hx _ _ _ _ h.at' hu rfl (by rw [h.size]; exact T.info) k
theorem wpList_load_blk (T : StructT t n) (h : Blk w b t n cs) (ho : ldOf a o = some (t, .pointer (some ⟨b, 0, none⟩)))
  (k : wpList Tryd.prog ops Q rest (a.put o.dst (.agg cs)) w) : wpList Tryd.prog ops Q (o :: rest) a w := by
 obtain ⟨hg, x, ho, hx⟩ := ldOf_eq ho
 obtain ⟨fs, hu⟩ := T.und
 exact wpList_load_row hg _ x ho b hx _ _ _ _ h.at' hu rfl (by rw [h.size]; exact T.info) k
theorem wpList_load_blkg (T : StructT t n) (h : Blk w b t n cs) (ho : ldOp a o = some (t, .pointer (some ⟨b, 0, none⟩))) (hw : Region.wanted o (yielded ops a.tmps) = true)
  (k : wpList Tryd.prog ops Q rest (a.put o.dst (.agg cs)) w) : wpList Tryd.prog ops Q (o :: rest) a w :=
 wpList_take hw fun _ hK => wp_load_blk T h ho (hK _ _ k)
theorem wp_store_blk (T : StructT t n) (h : Blk w b t n cs) (F : Fits n ds) (ho : o.guard = none ∧ stOf a o = some (t, .pointer (some ⟨b, 0, none⟩), .agg ds))
  (k : K (a.put o.dst undef) (w.setRow b ds)) : Oper.wp Tryd.prog o a w K Q := by
 obtain ⟨hg, x, y, ho, hx, hy⟩ := stOf_eq ho.2
 exact wp_store_row _ x y ho b _ hx hy _ _ h.at' (by rw [F.size]; exact T.info) (by rw [h.size, F.size]) F.one k
theorem wpList_store_blk (T : StructT t n) (h : Blk w b t n cs) (F : Fits n ds) (ho : stOf a o = some (t, .pointer (some ⟨b, 0, none⟩), .agg ds))
  (k : wpList Tryd.prog ops Q rest (a.put o.dst undef) (w.setRow b ds)) : wpList Tryd.prog ops Q (o :: rest) a w := by
 obtain ⟨hg, x, y, ho, hx, hy⟩ := stOf_eq ho
 exact wpList_plain hg fun _ hK => wp_store_row _ x y ho b _ hx hy _ _ h.at' (by rw [F.size]; exact T.info) (by rw [h.size, F.size]) F.one (hK _ _ k)
theorem bp_blk (T : StructT t n) (hr : fn.results = #[.cell p t]) (hp : a.tmps.getD p undef = .pointer (some ⟨b, 0, none⟩)) (h : Blk w b t n cs) (hd : a.defers = []) (hR : R (.returned (.agg cs)) w) : bodyPost Tryd.prog fn R .ret a w := by
 obtain ⟨fs, hu⟩ := T.und
 exact bodyPost_ret (results_cell_row hr _ w b _ _ _ _ hp h.at' hu rfl (by rw [h.size]; exact T.info)) hd hR
theorem bp_blk2 (T : StructT t n) (hr : fn.results = #[.cell p t, .tmp q]) (hp : a.tmps.getD p undef = .pointer (some ⟨b, 0, none⟩)) (h : Blk w b t n cs) (hd : a.defers = []) (hR : R (.returned (.tuple #[.agg cs, a.tmps.getD q undef])) w) : bodyPost Tryd.prog fn R .ret a w := by
 obtain ⟨fs, hu⟩ := T.und
 have hp' : a.tmps[p]?.getD undef = .pointer (some ⟨b, 0, none⟩) := by simpa using hp
 refine bodyPost_ret ?_ hd hR
 simp [results, hr, hp', asAddr, run_loadVar_row w b _ _ _ _ _ h.at' hu rfl (by rw [h.size]; exact T.info)]
end
theorem setRow_alloc' (W : World) (c c' : Array Value) (t : TypeId) (n : Nat) (hn : n = W.heap.size) : (W.alloc (.cells c t)).setRow n c' = W.alloc (.cells c' t) := hn ▸ World.setRow_alloc_new W c c' t
theorem alloc_drewN (w : World) (o : Obj) (n : Nat) : (w.alloc o).drewN n = (w.drewN n).alloc o := rfl
theorem alloc_drew (w : World) (o : Obj) : (w.alloc o).drew = w.drew.alloc o := rfl
/-- a token's cells, an error's cells -/
abbrev tkA (k p n : Int) (s : ByteArray) : Array Value := #[.int .i64 k, .int .i64 p, .int .i64 n, .string s]
abbrev bdA (e p : Int) : Array Value := #[.int .i64 e, .int .i64 p]
theorem fitsT (k p n : Int) (s : ByteArray) : Fits 4 (tkA k p n s) := ⟨rfl, by simp [Value.oneCell']⟩
theorem fitsB (e p : Int) : Fits 2 (bdA e p) := ⟨rfl, by simp [Value.oneCell']⟩
theorem below_setRow {B : Nat} {a w : World} (h : Below B a w) {g : Nat} (hg : B ≤ g) (cs : Array Value) : Below B a (w.setRow g cs) :=
  ⟨h.os, h.tape, h.output, by have := h.size; simpa using this, fun k hk => (setRow_other w g k cs (by omega)).trans (h.block k hk)⟩
end Go.Proofs.YtknbnfnibdbokaaDoor
