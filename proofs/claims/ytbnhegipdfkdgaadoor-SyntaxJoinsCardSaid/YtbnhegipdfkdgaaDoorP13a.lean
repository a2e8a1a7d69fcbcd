/-
A world in parts: blocks of cells and what lies on blocks of its own, side by side; what an operation does to such a list of parts; functions by what they make of one part.
Plain mathematics of layer 12, twelfth part: functions so many tokens further on, and two texts as one.
-/
import Derived.Great.BuildSlice
import Derived.Test.YtbnhegipdfkdgaaDoorP12a
import Derived.Test.YtbnhegipdfkdgaaDoorP06a
section
namespace Go.Proofs.YtbnhegipdfkdgaaDoor
open Go.ChangeShapes Go.WideShapes Go.ChangeAt Go.RowKit
set_option linter.unusedVariables false
set_option linter.unusedSimpArgs false

/-- from world to world: all blocks of before but those of X are as they were -/
structure Rest (X : Nat → Prop) (w w' : World) : Prop where
  os : w'.os = w.os
  tape : w'.tape = w.tape
  output : w'.output = w.output
  size : w.heap.size ≤ w'.heap.size
  block : ∀ k, k < w.heap.size → ¬ X k → w'.heap[k]? = w.heap[k]?
theorem Rest.refl (X : Nat → Prop) (w : World) : Rest X w w := ⟨rfl, rfl, rfl, Nat.le_refl _, fun _ _ _ => rfl⟩
/-- what holds of a world, on some of its blocks -/
structure Hp where
  on : World → (Nat → Prop) → Prop
  loc : ∀ w w' P, on w P → (∀ k, P k → w'.heap[k]? = w.heap[k]?) → on w' P
  wide : ∀ w P P', on w P → (∀ k, P k → P' k) → on w P'
/-- a part: a block of cells, or something else -/
inductive It where
  | row (b : Nat) (t : TypeId) (cs : Array Value)
  | hp (h : Hp)
def It.on : It → World → (Nat → Prop) → Prop
  | .row b t cs, w, P => P b ∧ w.heap[b]? = some (.cells cs t (0, 0))
  | .hp h, w, P => h.on w P
theorem It.loc : ∀ (x : It) {w w' : World} {P : Nat → Prop}, x.on w P → (∀ k, P k → w'.heap[k]? = w.heap[k]?) → x.on w' P
  | .row b t cs, w, w', P, h, e => ⟨h.1, (e b h.1).trans h.2⟩
  | .hp h, w, w', P, hx, e => h.loc w w' P hx e
theorem It.wide : ∀ (x : It) {w : World} {P P' : Nat → Prop}, x.on w P → (∀ k, P k → P' k) → x.on w P'
  | .row b t cs, w, P, P', h, e => ⟨e b h.1, h.2⟩
  | .hp h, w, P, P', hx, e => h.wide w P P' hx e
/-- parts, each on blocks of its own -/
def Sep (w : World) : List It → (Nat → Prop) → Prop
  | [], _ => True
  | x :: I, P => ∃ A B : Nat → Prop, (∀ k, A k → P k) ∧ (∀ k, B k → P k) ∧ (∀ k, A k → B k → False) ∧ x.on w A ∧ Sep w I B
theorem Sep.wide {w : World} : ∀ {I : List It} {P P' : Nat → Prop}, Sep w I P → (∀ k, P k → P' k) → Sep w I P'
  | [], _, _, _, _ => trivial
  | _ :: _, _, _, ⟨A, B, h1, h2, h3, h4, h5⟩, e => ⟨A, B, fun k hk => e k (h1 k hk), fun k hk => e k (h2 k hk), h3, h4, h5⟩
theorem Sep.loc {w w' : World} : ∀ {I : List It} {P : Nat → Prop}, Sep w I P → (∀ k, P k → w'.heap[k]? = w.heap[k]?) → Sep w' I P
  | [], _, _, _ => trivial
  | x :: _, _, ⟨A, B, h1, h2, h3, h4, h5⟩, e => ⟨A, B, h1, h2, h3, x.loc h4 fun k hk => e k (h1 k hk), Sep.loc h5 fun k hk => e k (h2 k hk)⟩
theorem Sep.cons {w : World} {x : It} {I : List It} {A B P : Nat → Prop} (hx : x.on w A) (hI : Sep w I B) (h1 : ∀ k, A k → P k) (h2 : ∀ k, B k → P k) (h3 : ∀ k, A k → B k → False) : Sep w (x :: I) P := ⟨A, B, h1, h2, h3, hx, hI⟩
theorem Sep.swap {w : World} {x y : It} {I : List It} {P : Nat → Prop} (h : Sep w (x :: y :: I) P) : Sep w (y :: x :: I) P := by
  obtain ⟨A, B, h1, h2, h3, h4, C, D, h5, h6, h7, h8, h9⟩ := h
  refine ⟨C, fun k => A k ∨ D k, fun k hk => h2 k (h5 k hk), fun k hk => hk.elim (h1 k) fun hk => h2 k (h6 k hk), fun k hc hk => hk.elim (fun ha => h3 k ha (h5 k hc)) (h7 k hc), h8, A, D, fun k => Or.inl, fun k => Or.inr, fun k ha hd => h3 k ha (h6 k hd), h4, h9⟩
theorem Sep.drop {w : World} {x : It} {I : List It} {P : Nat → Prop} (h : Sep w (x :: I) P) : Sep w I P := by
  obtain ⟨A, B, h1, h2, h3, h4, h5⟩ := h
  exact h5.wide h2
theorem Sep.under {w : World} {x : It} {I J : List It} {P : Nat → Prop} (h : Sep w (x :: I) P) (e : ∀ P, Sep w I P → Sep w J P) : Sep w (x :: J) P := by
  obtain ⟨A, B, h1, h2, h3, h4, h5⟩ := h
  exact ⟨A, B, h1, h2, h3, h4, e _ h5⟩
theorem Sep.cat {w : World} : ∀ {I J : List It} {A B P : Nat → Prop}, Sep w I A → Sep w J B → (∀ k, A k → P k) → (∀ k, B k → P k) → (∀ k, A k → B k → False) → Sep w (I ++ J) P
  | [], J, A, B, P, _, hJ, _, h2, _ => hJ.wide h2
  | x :: I, J, A, B, P, ⟨C, D, c1, c2, c3, c4, c5⟩, hJ, h1, h2, h3 =>
    ⟨C, fun k => D k ∨ B k, fun k hk => h1 k (c1 k hk), fun k hk => hk.elim (fun h => h1 k (c2 k h)) (h2 k), fun k hc hk => hk.elim (c3 k hc) (h3 k (c1 k hc)), c4, Sep.cat c5 hJ (fun _ => Or.inl) (fun _ => Or.inr) fun k hd hb => h3 k (c2 k hd) hb⟩
theorem Sep.parts {w : World} : ∀ {I J : List It} {P : Nat → Prop}, Sep w (I ++ J) P → ∃ A B : Nat → Prop, (∀ k, A k → P k) ∧ (∀ k, B k → P k) ∧ (∀ k, A k → B k → False) ∧ Sep w I A ∧ Sep w J B
  | [], J, P, h => ⟨fun _ => False, P, fun _ h => h.elim, fun _ h => h, fun _ h _ => h, trivial, h⟩
  | x :: I, J, P, ⟨C, D, c1, c2, c3, c4, c5⟩ => by
    obtain ⟨A, B, h1, h2, h3, h4, h5⟩ := Sep.parts (I := I) (J := J) c5
    exact ⟨fun k => C k ∨ A k, B, fun k hk => hk.elim (c1 k) fun h => c2 k (h1 k h), fun k hk => c2 k (h2 k hk), fun k hk hb => hk.elim (fun hc => c3 k hc (h2 k hb)) fun ha => h3 k ha hb, ⟨C, A, fun _ => Or.inl, fun _ => Or.inr, fun k hc ha => c3 k hc (h1 k ha), c4, h4⟩, h5⟩
/-- the part at a place, and the others -/
theorem Sep.pick {w : World} : ∀ {I : List It} (i : Nat) {x : It} {P : Nat → Prop}, Sep w I P → I[i]? = some x → Sep w (x :: I.eraseIdx i) P
  | [], i, x, P, _, h => by cases h
  | y :: I, 0, x, P, hs, h => by simp at h; subst h; exact hs
  | y :: I, i + 1, x, P, hs, h => by
    have h' : I[i]? = some x := by simpa using h
    exact (hs.under fun P h => Sep.pick i h h').swap
theorem Sep.unpick {w : World} : ∀ {I : List It} (i : Nat) {x y : It} {P : Nat → Prop}, I[i]? = some x → Sep w (y :: I.eraseIdx i) P → Sep w (I.set i y) P
  | [], i, x, y, P, h, _ => by cases h
  | z :: I, 0, x, y, P, h, hs => hs
  | z :: I, i + 1, x, y, P, h, hs => by
    have h' : I[i]? = some x := by simpa using h
    exact Sep.under (Sep.swap hs) fun P h => Sep.unpick i h' h
theorem Sep.row {w : World} {I : List It} {P : Nat → Prop} (h : Sep w I P) (i : Nat) {b : Nat} {t : TypeId} {cs : Array Value} (hi : I[i]? = some (.row b t cs)) : P b ∧ w.heap[b]? = some (.cells cs t (0, 0)) := by
  obtain ⟨A, B, h1, h2, h3, h4, h5⟩ := Sep.pick i h hi
  exact ⟨h1 b h4.1, h4.2⟩
/-- the table of the signs between two, as cells -/
def tabC : List Value := Sx.tights.flatMap fun x => [.string (Lx.S x.1), .int .i64 x.2.2, .int .i64 x.2.1]
def TabAt (w : World) : Prop := ∀ j v, tabC[j]? = some v → w.cell? ⟨3, j, none⟩ = some v
/-- where a call may begin: the blocks are there, and none is the table's -/
structure Gd (w : World) (P : Nat → Prop) : Prop where
  lt : ∀ k, P k → k < w.heap.size
  no : ¬ P 3
  tab : TabAt w
/-- a walk's state: what was, and the parts now -/
structure St (X : Nat → Prop) (w0 w : World) (I : List It) : Prop where
  gd : Gd w0 X
  rest : Rest X w0 w
  sep : Sep w I fun k => k < w.heap.size ∧ (X k ∨ w0.heap.size ≤ k)
theorem St.start {X : Nat → Prop} {w : World} {I : List It} (hX : Gd w X) (h : Sep w I X) : St X w w I := ⟨hX, Rest.refl X w, h.wide fun k hk => ⟨hX.lt k hk, Or.inl hk⟩⟩
theorem St.to {X : Nat → Prop} {w0 w : World} {I J : List It} (h : St X w0 w I) (e : ∀ P, Sep w I P → Sep w J P) : St X w0 w J := ⟨h.gd, h.rest, e _ h.sep⟩
theorem St.row {X : Nat → Prop} {w0 w : World} {I : List It} (h : St X w0 w I) (i : Nat) {b : Nat} {t : TypeId} {cs : Array Value} (hi : I[i]? = some (.row b t cs)) : w.heap[b]? = some (.cells cs t (0, 0)) := (h.sep.row i hi).2
theorem heap_push {w : World} {o : Obj} {k : Nat} (h : k < w.heap.size) : (w.alloc o).heap[k]? = w.heap[k]? := by
  show (w.heap.push o)[k]? = _
  rw [Array.getElem?_push_lt h, Array.getElem?_eq_getElem h]
/-- a new block -/
theorem St.alloc {X : Nat → Prop} {w0 w : World} {x : It} {I : List It} (h : St X w0 w (x :: I)) (cs : Array Value) (t : TypeId) : St X w0 (w.alloc (.cells cs t)) (x :: .row w.heap.size t cs :: I) := by
  have hsz : (w.alloc (.cells cs t)).heap.size = w.heap.size + 1 := Array.size_push _
  refine ⟨h.gd, ⟨h.rest.os, h.rest.tape, h.rest.output, by rw [hsz]; have := h.rest.size; omega, fun k hk hx => (heap_push (Nat.lt_of_lt_of_le hk h.rest.size)).trans (h.rest.block k hk hx)⟩, ?_⟩
  refine Sep.swap (Sep.cons (A := fun k => k = w.heap.size) (B := fun k => k < w.heap.size ∧ (X k ∨ w0.heap.size ≤ k)) ⟨rfl, heap_alloc_last w _⟩ (h.sep.loc fun k hk => heap_push hk.1) ?_ ?_ ?_)
  · rintro k rfl
    exact ⟨by rw [hsz]; omega, Or.inr h.rest.size⟩
  · exact fun k hk => ⟨by rw [hsz]; omega, hk.2⟩
  · rintro k rfl hk
    omega
theorem size_setRow (w : World) (b : Nat) (ds : Array Value) : (w.setRow b ds).heap.size = w.heap.size := by simp
theorem St.alloc0 {X : Nat → Prop} {w0 w : World} {I : List It} (h : St X w0 w I) (cs : Array Value) (t : TypeId) : St X w0 (w.alloc (.cells cs t)) (.row w.heap.size t cs :: I) := by
  have hh : St X w0 w (.hp ⟨fun _ _ => True, fun _ _ _ _ _ => trivial, fun _ _ _ _ _ => trivial⟩ :: I) := ⟨h.gd, h.rest, Sep.cons (A := fun _ => False) trivial h.sep (fun _ h => h.elim) (fun _ h => h) fun _ h _ => h⟩
  have h2 := hh.alloc cs t
  exact ⟨h2.gd, h2.rest, h2.sep.drop⟩
/-- a block written anew -/
theorem St.set {X : Nat → Prop} {w0 w : World} {I : List It} (h : St X w0 w I) (i : Nat) {b : Nat} {t : TypeId} {cs : Array Value} (hi : I[i]? = some (.row b t cs)) (ds : Array Value) : St X w0 (w.setRow b ds) (I.set i (.row b t ds)) := by
  obtain ⟨A, B, h1, h2, h3, h4, h5⟩ := Sep.pick i h.sep hi
  refine ⟨h.gd, ⟨h.rest.os, h.rest.tape, h.rest.output, by rw [size_setRow]; exact h.rest.size, fun k hk hx => ?_⟩, ?_⟩
  · have hb := (h1 b h4.1).2
    rw [setRow_other w b k ds (fun e => by subst e; rcases hb with hb | hb; exact hx hb; omega)]
    exact h.rest.block k hk hx
  · refine Sep.unpick i hi (Sep.cons (A := fun k => k = b) ⟨rfl, setRow_heap w b _ _ _ _ h4.2⟩ (h5.loc fun k hk => setRow_other w b k ds (fun e => h3 k (e ▸ h4.1) hk)) ?_ ?_ ?_)
    · rintro k rfl
      rw [size_setRow]; exact h1 k h4.1
    · intro k hk; rw [size_setRow]; exact h2 k hk
    · rintro k rfl hk; exact h3 k h4.1 hk
theorem St.tab {X : Nat → Prop} {w0 w : World} {I : List It} (h : St X w0 w I) : TabAt w := fun j v hj => by
  have h1 := h.gd.tab j v hj
  rw [World.cell?_of_block (w := w0) (h.rest.block _ (cell_lt h1) h.gd.no)]
  exact h1
theorem TabAt.lt {w : World} (h : TabAt w) : 3 < w.heap.size := cell_lt (h 0 _ rfl)
theorem St.gdAt {X : Nat → Prop} {w0 w : World} {I : List It} (h : St X w0 w I) {A : Nat → Prop} (h1 : ∀ k, A k → k < w.heap.size ∧ (X k ∨ w0.heap.size ≤ k)) : Gd w A :=
  ⟨fun k hk => (h1 k hk).1, fun hA => (h1 _ hA).2.elim h.gd.no fun hl => absurd h.gd.tab.lt (Nat.not_lt_of_le hl), h.tab⟩
/-- what a function makes of a list of parts -/
def Fn (f : FuncId) (args : Array Value) (pre : List It) (post : Ending → List It → Prop) : Prop :=
  ∀ (w : World) (P : Nat → Prop), Gd w P → Sep w pre P → Calls Tryd.prog f args w fun e w' => ∃ J, post e J ∧ St P w w' J
theorem St.call {X : Nat → Prop} {w0 w : World} {I pre : List It} {f : FuncId} {args : Array Value} {post : Ending → List It → Prop} (h : St X w0 w (pre ++ I)) (c : Fn f args pre post) :
    Calls Tryd.prog f args w fun e w' => ∃ J, post e J ∧ St X w0 w' (J ++ I) := by
  obtain ⟨A, B, h1, h2, h3, h4, h5⟩ := Sep.parts h.sep
  refine (c w A (h.gdAt h1) h4).mono ?_
  rintro e w' ⟨J, hp, hs⟩
  refine ⟨J, hp, h.gd, ⟨hs.rest.os.trans h.rest.os, hs.rest.tape.trans h.rest.tape, hs.rest.output.trans h.rest.output, Nat.le_trans h.rest.size hs.rest.size, fun k hk hx => ?_⟩, ?_⟩
  · have hk' := Nat.lt_of_lt_of_le hk h.rest.size
    rw [hs.rest.block k hk' (fun ha => by rcases (h1 k ha).2 with hq | hq; exact hx hq; omega)]
    exact h.rest.block k hk hx
  · refine Sep.cat hs.sep (h5.loc fun k hk => hs.rest.block k (h2 k hk).1 (fun ha => h3 k ha hk)) ?_ ?_ ?_
    · rintro k ⟨hk, hk2 | hk2⟩
      · exact ⟨hk, (h1 k hk2).2⟩
      · exact ⟨hk, Or.inr (Nat.le_trans h.rest.size hk2)⟩
    · exact fun k hk => ⟨Nat.lt_of_lt_of_le (h2 k hk).1 hs.rest.size, (h2 k hk).2⟩
    · rintro k ⟨hk, hk2 | hk2⟩ hb
      · exact h3 k hk2 hb
      · have := (h2 k hb).1; omega
theorem St.call1 {X : Nat → Prop} {w0 w : World} {x : It} {I : List It} {f : FuncId} {args : Array Value} {post : Ending → List It → Prop} (h : St X w0 w (x :: I)) (c : Fn f args [x] post) :
    Calls Tryd.prog f args w fun e w' => ∃ J, post e J ∧ St X w0 w' (J ++ I) := St.call (pre := [x]) h c
/-! ### operations -/
section
variable {ops : Array Oper} {rest : List Oper} {o : Oper} {a : Act} {w w0 : World} {X : Nat → Prop} {x : It} {I : List It} {Q : Exit → Act → World → Prop} {K : Act → World → Prop} {b n k i : Nat} {t : TypeId} {cs ds : Array Value} {v : Value}
/-- a type's zero, as cells -/
def Zero (t : TypeId) (zc : Array Value) : Prop := (Tryd.prog.info? t).map (fun i => i.zero.map (·.cells)) = some (some zc)
def alOf (o : Oper) : Option TypeId := match o.guard, o.op with | none, .alloc t => some t | _, _ => none
theorem wpl_alloc (h : St X w0 w (x :: I)) (zc : Array Value) (ho : alOf o = some t) (hz : Zero t zc)
    (k : ∀ (b : Nat) (w' : World), Hid (St X w0 w' (x :: .row b t zc :: I)) → wpList Tryd.prog ops Q rest (a.put o.dst (.pointer (some ⟨b, 0, none⟩))) w') : wpList Tryd.prog ops Q (o :: rest) a w := by
  unfold alOf at ho
  split at ho
  · next t' hg hop =>
    simp at ho; subst ho
    refine wpList_plain hg fun K hK => ?_
    unfold Oper.wp execOp
    unfold Zero at hz
    cases hi : Tryd.prog.info? t' with
    | none => simp [hi] at hz
    | some i =>
      cases hzz : i.zero with
      | none => simp [hi, hzz] at hz
      | some z =>
        simp [hi, hzz] at hz
        subst hz
        have hr : (Instr.alloc t' true (.tuple #[])).run Tryd.prog w = .ok (.pointer (some ⟨w.heap.size, 0, none⟩)) (w.alloc (.cells z.cells t')) := by
          simp [Instr.alloc, zeroValue, typeInfo, hi, hzz, newVar, newRow]
        simp only [hop, Sem.run_bind, hr, Result.andThen_ok, Sem.run_pure]
        exact hK _ _ (k _ _ (Lib.hid (h.alloc z.cells t')))
  · cases ho
theorem wpl_alloc0 (h : St X w0 w I) (zc : Array Value) (ho : alOf o = some t) (hz : Zero t zc)
    (k : ∀ (b : Nat) (w' : World), Hid (St X w0 w' (.row b t zc :: I)) → wpList Tryd.prog ops Q rest (a.put o.dst (.pointer (some ⟨b, 0, none⟩))) w') : wpList Tryd.prog ops Q (o :: rest) a w := by
  unfold alOf at ho
  split at ho
  · next t' hg hop =>
    simp at ho; subst ho
    refine wpList_plain hg fun K hK => ?_
    unfold Oper.wp execOp
    unfold Zero at hz
    cases hi : Tryd.prog.info? t' with
    | none => simp [hi] at hz
    | some i =>
      cases hzz : i.zero with
      | none => simp [hi, hzz] at hz
      | some z =>
        simp [hi, hzz] at hz
        subst hz
        have hr : (Instr.alloc t' true (.tuple #[])).run Tryd.prog w = .ok (.pointer (some ⟨w.heap.size, 0, none⟩)) (w.alloc (.cells z.cells t')) := by
          simp [Instr.alloc, zeroValue, typeInfo, hi, hzz, newVar, newRow]
        simp only [hop, Sem.run_bind, hr, Result.andThen_ok, Sem.run_pure]
        exact hK _ _ (k _ _ (Lib.hid (h.alloc0 z.cells t')))
  · cases ho
def bxOf (a : Act) (o : Oper) : Option (TypeId × Value) := match o.guard, o.op with | none, .box t x => some (t, a.eval x) | _, _ => none
theorem wpl_box (h : St X w0 w (x :: I)) (ho : bxOf a o = some (t, v)) (hc : v.cells = cs)
    (k : ∀ (b : Nat) (w' : World), Hid (St X w0 w' (x :: .row b t cs :: I)) → wpList Tryd.prog ops Q rest (a.put o.dst (.pointer (some ⟨b, 0, none⟩))) w') : wpList Tryd.prog ops Q (o :: rest) a w := by
  unfold bxOf at ho
  split at ho
  · next t' y hg hop =>
    simp at ho; obtain ⟨rfl, rfl⟩ := ho
    subst hc
    refine wpList_plain hg fun K hK => ?_
    unfold Oper.wp execOp
    simp only [hop, Sem.run_bind, Instr.box, newVar, newRow, run_newObj_alloc, Sem.run_pure, Result.andThen_ok]
    exact hK _ _ (k _ _ (Lib.hid (h.alloc _ t')))
  · cases ho
theorem wpl_loadS (h : St X w0 w I) (i : Nat) (ho : ldOf a o = some (t, .pointer (some ⟨b, 0, none⟩))) (hI : I[i]? = some (.row b t cs)) (T : StructT t n) (hn : cs.size = n)
    (k : wpList Tryd.prog ops Q rest (a.put o.dst (.agg cs)) w) : wpList Tryd.prog ops Q (o :: rest) a w :=
  wpList_load_blk T ⟨h.row i hI, hn⟩ ho k
theorem wpl_storeS (h : St X w0 w I) (i : Nat) (ho : stOf a o = some (t, .pointer (some ⟨b, 0, none⟩), .agg ds)) (hI : I[i]? = some (.row b t cs)) (T : StructT t n) (hn : cs.size = n) (F : Fits n ds)
    (k : ∀ w', Hid (St X w0 w' (I.set i (.row b t ds))) → wpList Tryd.prog ops Q rest (a.put o.dst undef) w') : wpList Tryd.prog ops Q (o :: rest) a w :=
  wpList_store_blk T ⟨h.row i hI, hn⟩ F ho (k _ (Lib.hid (h.set i hI ds)))
/-- a type of one cell -/
structure One (t : TypeId) : Prop where
  agg : ∀ w, (isAgg t).run Tryd.prog w = .ok false w
  info : (Tryd.prog.info? t).map (·.size) = some 1
theorem wpl_load (h : St X w0 w I) (i : Nat) (ho : ldOf a o = some (t, .pointer (some ⟨b, k, none⟩))) {tb : TypeId} (hI : I[i]? = some (.row b tb cs)) (T : One t) (hv : cs.toList[k]? = some v)
    (hk : wpList Tryd.prog ops Q rest (a.put o.dst v) w) : wpList Tryd.prog ops Q (o :: rest) a w := by
  obtain ⟨hg, y, ho, hx⟩ := ldOf_eq ho
  refine wpList_plain hg fun K hK => ?_
  have hc : w.cell? ⟨b, k, none⟩ = some v := (cell_of_row w b k _ _ _ (h.row i hI)).trans (by rw [← hv, Array.getElem?_toList])
  have hr : (loadVar t ⟨b, k, none⟩).run Tryd.prog w = .ok v w := by
    unfold loadVar
    simp [Sem.run_bind, T.agg w, hc, go_sem]
  unfold Oper.wp execOp
  simp only [ho, hx, Instr.loadAt, Instr.sureAddr, Sem.run_bind, Sem.run_pure, Result.andThen_ok, hr]
  exact hK _ _ hk
theorem wpl_store (h : St X w0 w I) (i : Nat) (ho : stOf a o = some (t, .pointer (some ⟨b, k, none⟩), v)) {tb : TypeId} (hI : I[i]? = some (.row b tb cs)) (T : One t) (hk : k < cs.size) (h1 : v.oneCell' = true)
    (hn : ∀ w', Hid (St X w0 w' (I.set i (.row b tb (cs.setIfInBounds k v)))) → wpList Tryd.prog ops Q rest (a.put o.dst undef) w') : wpList Tryd.prog ops Q (o :: rest) a w := by
  obtain ⟨hg, x, y, ho, hx, hy⟩ := stOf_eq ho
  refine wpList_plain hg fun K hK => ?_
  have hrow := h.row i hI
  have hc : w.cell? ⟨b, k, none⟩ = some cs[k] := (cell_of_row w b k _ _ _ hrow).trans (Array.getElem?_eq_getElem hk)
  have hf : w.frozen? ⟨b, k, none⟩ = false := by simp [World.frozen?, hrow]
  have hcells : v.cells = #[v] := by cases v <;> first | rfl | simp [Value.oneCell'] at h1
  have hr : (storeVar t ⟨b, k, none⟩ v).run Tryd.prog w = .ok () (w.setCell ⟨b, k, none⟩ v) := by
    cases hq : Tryd.prog.info? t with
    | none => have := T.info; rw [hq] at this; cases this
    | some i =>
      have hs : i.size = 1 := by have := T.info; rw [hq] at this; simpa using this
      simp [storeVar, hcells, sizeOf, typeInfo, hq, hs, storeCells, run_store Tryd.prog _ _ v _ h1, Addr.add_zero', hc, hf, Result.andThen]
  unfold Oper.wp execOp
  simp only [ho, hx, hy, Instr.storeAt, Instr.sureAddr, Sem.run_bind, Sem.run_pure, Result.andThen_ok, hr]
  refine hK _ _ (hn _ (Lib.hid ?_))
  rw [setCell_eq_setRow w b k cs tb (0, 0) v hrow]
  exact h.set i hI _
end
theorem St.setCell {X : Nat → Prop} {w0 w : World} {I : List It} (h : St X w0 w I) (i : Nat) {b : Nat} {t : TypeId} {cs : Array Value} (hi : I[i]? = some (.row b t cs)) (k : Nat) (v : Value) : St X w0 (w.setCell ⟨b, k, none⟩ v) (I.set i (.row b t (cs.setIfInBounds k v))) := by
  rw [setCell_eq_setRow w b k cs t (0, 0) v (h.row i hi)]
  exact h.set i hi _
theorem St.cell {X : Nat → Prop} {w0 w : World} {I : List It} (h : St X w0 w I) (i : Nat) {b : Nat} {t : TypeId} {cs : Array Value} (hi : I[i]? = some (.row b t cs)) (k : Nat) : w.cell? ⟨b, k, none⟩ = cs[k]? := cell_of_row w b k _ _ _ (h.row i hi)
theorem St.open {X : Nat → Prop} {w0 w : World} {I : List It} (h : St X w0 w I) (i : Nat) {b : Nat} {t : TypeId} {cs : Array Value} (hi : I[i]? = some (.row b t cs)) (k : Nat) : w.frozen? ⟨b, k, none⟩ = false := by simp [World.frozen?, h.row i hi]
theorem St.drew {X : Nat → Prop} {w0 w : World} {I : List It} (h : St X w0 w I) : St X w0 w.drew I := ⟨h.gd, ⟨h.rest.os, h.rest.tape, h.rest.output, h.rest.size, h.rest.block⟩, h.sep.loc fun _ _ => rfl⟩
theorem St.drewN {X : Nat → Prop} {w0 w : World} {I : List It} (h : St X w0 w I) (n : Nat) : St X w0 (w.drewN n) I := ⟨h.gd, ⟨h.rest.os, h.rest.tape, h.rest.output, h.rest.size, h.rest.block⟩, h.sep.loc fun _ _ => rfl⟩
/-- parts by their places, each place counted among those that are left -/
def selO : List It → List Nat → Option (List It)
  | _, [] => some []
  | I, i :: is => match I[i]?, selO (I.eraseIdx i) is with
    | some x, some J => some (x :: J)
    | _, _ => none
theorem Sep.sel {w : World} : ∀ {I J : List It} {P : Nat → Prop} (is : List Nat), Sep w I P → selO I is = some J → Sep w J P
  | I, J, P, [], h, e => by simp [selO] at e; subst e; trivial
  | I, J, P, i :: is, h, e => by
    unfold selO at e
    split at e
    · next x J' hx hJ => cases e; exact (Sep.pick i h hx).under fun P h => Sep.sel is h hJ
    · cases e
theorem St.sel {X : Nat → Prop} {w0 w : World} {I J : List It} (h : St X w0 w I) (is : List Nat) (e : selO I is = some J) : St X w0 w J := ⟨h.gd, h.rest, h.sep.sel is e⟩
theorem bp_cell {fn : Func} {R : Ending → World → Prop} {a : Act} {w w0 : World} {X : Nat → Prop} {I : List It} {p : Tmp} {t : TypeId} {n b : Nat} {cs : Array Value} (h : St X w0 w I) (i : Nat) (T : StructT t n) (hr : fn.results = #[.cell p t]) (hp : a.tmps.getD p undef = .pointer (some ⟨b, 0, none⟩))
    (hI : I[i]? = some (.row b t cs)) (hn : cs.size = n) (hd : a.defers = []) (hR : R (.returned (.agg cs)) w) : bodyPost Tryd.prog fn R .ret a w :=
  bp_blk T hr hp ⟨h.row i hI, hn⟩ hd hR
end Go.Proofs.YtbnhegipdfkdgaaDoor
end
section
set_option linter.unusedVariables false
set_option linter.unusedSimpArgs false
namespace Go.Proofs.YtbnhegipdfkdgaaDoor

section
variable {K J : List Lx.Tok} {m d : Nat}
theorem Sx.sh_block {σ : Sx.R} (hK : Sx.Ends K) (hJ : Sx.Ends J) (h : Sx.Sh K J m d) (hi : σ.at' < K.length) (he : (Sx.block K (Sx.fuel K) σ).2.err = 0) : Sx.block J (Sx.fuel J) (σ.up m) = (Sx.S.onL d (Sx.block K (Sx.fuel K) σ).1, (Sx.block K (Sx.fuel K) σ).2.up m) := by
  have hm := Sx.M_fuel K σ
  have hm' := Sx.M_fuel J (σ.up m)
  have e1 : Sx.block K (Sx.fuel K) σ = Sx.block K (Sx.fuel K + Sx.fuel J) σ := (Sx.enough_stmts hK _).1 _ σ hi (by unfold Sx.fuel; omega) (by unfold Sx.fuel; omega)
  have e2 : Sx.block J (Sx.fuel J) (σ.up m) = Sx.block J (Sx.fuel K + Sx.fuel J) (σ.up m) := (Sx.enough_stmts hJ _).1 _ _ (Sx.sh_lt h hi) (by unfold Sx.fuel; omega) (by unfold Sx.fuel; omega)
  rw [e1] at he ⊢
  rw [e2]
  exact (Sx.sh_stmts hK hJ h _).1 σ hi (by unfold Sx.fuel; omega) he
theorem Sx.sh_params (hK : Sx.Ends K) (h : Sx.Sh K J m d) (f : Nat) : ∀ σ, σ.at' < K.length → (Sx.params K f σ).2.err = 0 → Sx.params J f (σ.up m) = ((Sx.params K f σ).1.map (Sx.Pa.on d), (Sx.params K f σ).2.up m) := by
  induction f with
  | zero => intros; rw [Sx.params, Sx.params]; rfl
  | succ f ih =>
    intro σ hi he
    rw [Sx.params] at he
    rw [Sx.params, Sx.params, Sx.sh_may h hi]
    simp only []
    by_cases h1 : (Sx.may K [44] σ).1 = true
    · rw [if_pos h1] at he ⊢
      rw [if_pos h1]
      simp only [] at he ⊢
      have i1 := (Sx.le_may hK [44] (by decide) σ).2.2.1 hi
      have i2 := (Sx.le_param hK _).2.2.1 i1
      have e1 := (Sx.le_params hK f _).ok he
      rw [Sx.sh_param hK h i1 e1]
      simp only []
      rw [ih _ i2 he]
      rfl
    · rw [if_neg h1, if_neg h1]; rfl
theorem Sx.sh_plist {σ : Sx.R} (hK : Sx.Ends K) (hJ : Sx.Ends J) (h : Sx.Sh K J m d) (hi : σ.at' < K.length) (he : (Sx.plist K σ).2.err = 0) : Sx.plist J (σ.up m) = ((Sx.plist K σ).1.map (Sx.Pa.on d), (Sx.plist K σ).2.up m) := by
  unfold Sx.plist at he ⊢
  rw [Sx.sh_sees h hi]
  by_cases h1 : Sx.sees K [41] σ = true
  · rw [if_pos h1, if_pos h1]; rfl
  · rw [if_neg h1] at he ⊢
    rw [if_neg h1]
    simp only [] at he ⊢
    have e1 := (Sx.le_params hK _ _).ok he
    have i1 := (Sx.le_param hK σ).2.2.1 hi
    have hm := Sx.M_fuel K (Sx.param K σ).2
    have hm' := Sx.M_fuel J ((Sx.param K σ).2.up m)
    have q1 : Sx.params K (Sx.fuel K) (Sx.param K σ).2 = Sx.params K (Sx.fuel K + Sx.fuel J) (Sx.param K σ).2 := Sx.enough_params hK _ _ _ i1 (by unfold Sx.fuel; omega) (by unfold Sx.fuel; omega)
    have q2 : Sx.params J (Sx.fuel J) ((Sx.param K σ).2.up m) = Sx.params J (Sx.fuel K + Sx.fuel J) ((Sx.param K σ).2.up m) := Sx.enough_params hJ _ _ _ (Sx.sh_lt h i1) (by unfold Sx.fuel; omega) (by unfold Sx.fuel; omega)
    rw [Sx.sh_param hK h hi e1]
    simp only []
    rw [q2]
    rw [q1] at he ⊢
    rw [Sx.sh_params hK h _ _ i1 he]
    rfl
theorem Sx.sh_res {c : Bool × Sx.R} (hK : Sx.Ends K) (h : Sx.Sh K J m d) (hi : c.2.at' < K.length) (he : (Sx.res K c).2.err = 0) : Sx.res J (c.1, c.2.up m) = ((Sx.res K c).1, (Sx.res K c).2.up m) := by
  unfold Sx.res at he ⊢
  simp only [] at he ⊢
  by_cases h1 : c.1 = true
  · rw [if_pos h1] at he ⊢
    rw [if_pos h1]
    have e1 := (Sx.le_type hK _ _ _).ok he
    have i1 := (Sx.le_label hK c.2).2.2.1 hi
    rw [Sx.sh_label hK h hi e1]
    simp only []
    rw [Sx.sh_type hK h i1 he]
  · rw [if_neg h1, if_neg h1]
theorem Sx.sh_function {σ : Sx.R} (hK : Sx.Ends K) (hJ : Sx.Ends J) (h : Sx.Sh K J m d) (hi : σ.at' < K.length) (he : (Sx.function K σ).2.err = 0) : Sx.function J (σ.up m) = ((Sx.function K σ).1.on d, (Sx.function K σ).2.up m) := by
  unfold Sx.function at he ⊢
  simp only [] at he ⊢
  have e1 := ((Sx.le_stmts hK _).1 _).ok he
  have e2 := (Sx.le_res hK _).ok e1
  have e3 := (Sx.le_may hK [58] (by decide) _).ok e2
  have e4 := (Sx.le_eat hK [41] (by decide) _).ok e3
  have e5 := (Sx.le_plist hK _).ok e4
  have e6 := (Sx.le_eat hK [40] (by decide) _).ok e5
  have e7 := (Sx.le_some hK 1 (by decide) _).ok e6
  have i1 := (Sx.le_eat hK Sx.wFn (by decide) σ).2.2.1 hi
  have i2 := (Sx.le_some hK 1 (by decide) _).2.2.1 i1
  have i3 := (Sx.le_eat hK [40] (by decide) _).2.2.1 i2
  have i4 := (Sx.le_plist hK _).2.2.1 i3
  have i5 := (Sx.le_eat hK [41] (by decide) _).2.2.1 i4
  have i6 := (Sx.le_may hK [58] (by decide) _).2.2.1 i5
  have i7 := (Sx.le_res hK (Sx.may K [58] (Sx.eat K [41] (Sx.plist K (Sx.eat K [40] (Sx.some K 1 (Sx.eat K Sx.wFn σ)).2)).2))).2.2.1 i6
  rw [Sx.sh_eat h hi e7, Sx.sh_some h i1 e6]
  simp only []
  rw [Sx.sh_eat h i2 e5, Sx.sh_plist hK hJ h i3 e4]
  simp only []
  rw [Sx.sh_eat h i4 e3, Sx.sh_may h i5, Sx.sh_res hK h i6 e1]
  simp only []
  rw [Sx.sh_block hK hJ h i7 he, Sx.on_pos]
  rfl
theorem Sx.sh_functions (hK : Sx.Ends K) (hJ : Sx.Ends J) (h : Sx.Sh K J m d) (f : Nat) : ∀ σ, σ.at' < K.length → (Sx.functions K f σ).2.err = 0 → Sx.functions J f (σ.up m) = ((Sx.functions K f σ).1.map (Sx.F.on d), (Sx.functions K f σ).2.up m) := by
  induction f with
  | zero => intros; rw [Sx.functions, Sx.functions]; rfl
  | succ f ih =>
    intro σ hi he
    rw [Sx.functions] at he
    rw [Sx.functions, Sx.functions, Sx.sh_tk h hi, Sx.up_err]
    by_cases h1 : (decide (σ.err = 0) && decide ((Sx.tk K σ).kind ≠ 0)) = true
    · rw [if_pos h1] at he ⊢
      rw [if_pos (c := (decide (σ.err = 0) && decide (((Sx.tk K σ).on d).kind ≠ 0)) = true) h1]
      simp only [] at he ⊢
      have e1 := (Sx.le_functions hK f _).ok he
      have i1 := (Sx.le_function hK σ).2.2.1 hi
      rw [Sx.sh_function hK hJ h hi e1]
      simp only []
      rw [ih _ i1 he]
      rfl
    · rw [if_neg h1, if_neg (c := (decide (σ.err = 0) && decide (((Sx.tk K σ).on d).kind ≠ 0)) = true) h1]
      rfl
end
/-- two lists of tokens, one behind the other: the functions of both -/
theorem Sx.joins {A L K J : List Lx.Tok} {d : Nat} (hW : Sx.Whole A L) (hK : Sx.Ends K) (hJ : Sx.Ends J) (h0 : 0 < K.length) (hj : J = A ++ K.map (Lx.Tok.on d))
    (he : (Sx.functions L (Sx.fuel L) Sx.start).2.err = 0) (hf : (Sx.functions K (Sx.fuel K) Sx.start).2.err = 0) :
    (Sx.functions J (Sx.fuel J) Sx.start).1 = (Sx.functions L (Sx.fuel L) Sx.start).1 ++ (Sx.functions K (Sx.fuel K) Sx.start).1.map (Sx.F.on d) ∧ (Sx.functions J (Sx.fuel J) Sx.start).2.err = 0 := by
  have hL := Sx.whole_ends hW
  have hlen : L.length = A.length + 1 := by obtain ⟨_, z, _, rfl⟩ := hW; simp
  have hlJ : J.length = A.length + K.length := by rw [hj, List.length_append, List.length_map]
  have hpre : ∀ i, i < A.length → J[i]? = A[i]? := fun i hi => by rw [hj, List.getElem?_append_left hi]
  have hsh : Sx.Sh K J A.length d := fun i hi => by
    rw [hj, List.getElem?_append_right (by omega), Nat.add_sub_cancel, List.getElem?_map]
  have m1 := Sx.M_fuel L Sx.start
  have m2 := Sx.M_fuel J Sx.start
  have m3 := Sx.M_fuel J ⟨A.length, 0, 0, 0⟩
  have m4 := Sx.M_fuel K Sx.start
  obtain ⟨_, r⟩ := Sx.functions_more hW hJ (by omega) hpre (Sx.fuel L) (Sx.fuel J) (Sx.fuel J + Sx.fuel K) Sx.start (by show 0 < _; omega) (by unfold Sx.fuel; omega) (by unfold Sx.fuel; omega) (by show Sx.M J ⟨A.length, 0, 0, 0⟩ < _; unfold Sx.fuel; omega) he
  have e1 : Sx.functions K (Sx.fuel K) Sx.start = Sx.functions K (Sx.fuel J + Sx.fuel K) Sx.start := Sx.enough_functions hK _ _ _ h0 (by unfold Sx.fuel; omega) (by unfold Sx.fuel; omega)
  have e2 : (⟨A.length, Sx.start.opn, 0, Sx.start.pos⟩ : Sx.R) = Sx.start.up A.length := by unfold Sx.R.up Sx.start; simp
  rw [e1] at hf ⊢
  have q := Sx.sh_functions hK hJ hsh _ Sx.start h0 hf
  rw [e2, q] at r
  rw [r]
  exact ⟨rfl, hf⟩
end Go.Proofs.YtbnhegipdfkdgaaDoor
end
