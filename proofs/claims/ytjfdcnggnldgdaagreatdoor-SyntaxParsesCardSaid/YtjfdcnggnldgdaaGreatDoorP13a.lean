/-
A world in parts: blocks of cells and what lies on blocks of its own, side by side; what an operation does to such a list of parts; functions by what they make of one part.
What the document's Lex returns (layer 11).
The reader of package syntax as a part: its own cells and the tokens; what its small functions make of it.
-/
import Derived.Great.BuildSlice
import Derived.Test.YtjfdcnggnldgdaaGreatDoorP11a
import Derived.Test.YtjfdcnggnldgdaaGreatDoorP05a
section
namespace Go.Proofs.YtjfdcnggnldgdaaGreatDoor
open Go.ChangeShapes Go.WideShapes Go.ChangeAt Go.RowKit
set_option linter.unusedVariables false
set_option linter.unusedSimpArgs false

/-- from world to world: all blocks of before but those of X are as they were -/
structure Rest (X : Nat → Prop) (w w' : World) : Prop where
  os : w'.os = w.os
  tape : w'.tape = w.tape
  output : w'.output = w.output
  size : w.heap.size ≤ w'.heap.size
  block : ∀ k, k < w.heap.size → ¬ X k → w'.heap[k]? = w.heap[k]?
theorem Rest.refl (X : Nat → Prop) (w : World) : Rest X w w := ⟨rfl, rfl, rfl, Nat.le_refl _, fun _ _ _ => rfl⟩
/-- what holds of a world, on some of its blocks -/
structure Hp where
  on : World → (Nat → Prop) → Prop
  loc : ∀ w w' P, on w P → (∀ k, P k → w'.heap[k]? = w.heap[k]?) → on w' P
  wide : ∀ w P P', on w P → (∀ k, P k → P' k) → on w P'
/-- a part: a block of cells, or something else -/
inductive It where
  | row (b : Nat) (t : TypeId) (cs : Array Value)
  | hp (h : Hp)
def It.on : It → World → (Nat → Prop) → Prop
  | .row b t cs, w, P => P b ∧ w.heap[b]? = some (.cells cs t (0, 0))
  | .hp h, w, P => h.on w P
theorem It.loc : ∀ (x : It) {w w' : World} {P : Nat → Prop}, x.on w P → (∀ k, P k → w'.heap[k]? = w.heap[k]?) → x.on w' P
  | .row b t cs, w, w', P, h, e => ⟨h.1, (e b h.1).trans h.2⟩
  | .hp h, w, w', P, hx, e => h.loc w w' P hx e
theorem It.wide : ∀ (x : It) {w : World} {P P' : Nat → Prop}, x.on w P → (∀ k, P k → P' k) → x.on w P'
  | .row b t cs, w, P, P', h, e => ⟨e b h.1, h.2⟩
  | .hp h, w, P, P', hx, e => h.wide w P P' hx e
/-- parts, each on blocks of its own -/
def Sep (w : World) : List It → (Nat → Prop) → Prop
  | [], _ => True
  | x :: I, P => ∃ A B : Nat → Prop, (∀ k, A k → P k) ∧ (∀ k, B k → P k) ∧ (∀ k, A k → B k → False) ∧ x.on w A ∧ Sep w I B
theorem Sep.wide {w : World} : ∀ {I : List It} {P P' : Nat → Prop}, Sep w I P → (∀ k, P k → P' k) → Sep w I P'
  | [], _, _, _, _ => trivial
  | _ :: _, _, _, ⟨A, B, h1, h2, h3, h4, h5⟩, e => ⟨A, B, fun k hk => e k (h1 k hk), fun k hk => e k (h2 k hk), h3, h4, h5⟩
theorem Sep.loc {w w' : World} : ∀ {I : List It} {P : Nat → Prop}, Sep w I P → (∀ k, P k → w'.heap[k]? = w.heap[k]?) → Sep w' I P
  | [], _, _, _ => trivial
  | x :: _, _, ⟨A, B, h1, h2, h3, h4, h5⟩, e => ⟨A, B, h1, h2, h3, x.loc h4 fun k hk => e k (h1 k hk), Sep.loc h5 fun k hk => e k (h2 k hk)⟩
theorem Sep.cons {w : World} {x : It} {I : List It} {A B P : Nat → Prop} (hx : x.on w A) (hI : Sep w I B) (h1 : ∀ k, A k → P k) (h2 : ∀ k, B k → P k) (h3 : ∀ k, A k → B k → False) : Sep w (x :: I) P := ⟨A, B, h1, h2, h3, hx, hI⟩
theorem Sep.swap {w : World} {x y : It} {I : List It} {P : Nat → Prop} (h : Sep w (x :: y :: I) P) : Sep w (y :: x :: I) P := by
  obtain ⟨A, B, h1, h2, h3, h4, C, D, h5, h6, h7, h8, h9⟩ := h
  refine ⟨C, fun k => A k ∨ D k, fun k hk => h2 k (h5 k hk), fun k hk => hk.elim (h1 k) fun hk => h2 k (h6 k hk), fun k hc hk => hk.elim (fun ha => h3 k ha (h5 k hc)) (h7 k hc), h8, A, D, fun k => Or.inl, fun k => Or.inr, fun k ha hd => h3 k ha (h6 k hd), h4, h9⟩
theorem Sep.drop {w : World} {x : It} {I : List It} {P : Nat → Prop} (h : Sep w (x :: I) P) : Sep w I P := by
  obtain ⟨A, B, h1, h2, h3, h4, h5⟩ := h
  exact h5.wide h2
theorem Sep.under {w : World} {x : It} {I J : List It} {P : Nat → Prop} (h : Sep w (x :: I) P) (e : ∀ P, Sep w I P → Sep w J P) : Sep w (x :: J) P := by
  obtain ⟨A, B, h1, h2, h3, h4, h5⟩ := h
  exact ⟨A, B, h1, h2, h3, h4, e _ h5⟩
theorem Sep.cat {w : World} : ∀ {I J : List It} {A B P : Nat → Prop}, Sep w I A → Sep w J B → (∀ k, A k → P k) → (∀ k, B k → P k) → (∀ k, A k → B k → False) → Sep w (I ++ J) P
  | [], J, A, B, P, _, hJ, _, h2, _ => hJ.wide h2
  | x :: I, J, A, B, P, ⟨C, D, c1, c2, c3, c4, c5⟩, hJ, h1, h2, h3 =>
    ⟨C, fun k => D k ∨ B k, fun k hk => h1 k (c1 k hk), fun k hk => hk.elim (fun h => h1 k (c2 k h)) (h2 k), fun k hc hk => hk.elim (c3 k hc) (h3 k (c1 k hc)), c4, Sep.cat c5 hJ (fun _ => Or.inl) (fun _ => Or.inr) fun k hd hb => h3 k (c2 k hd) hb⟩
theorem Sep.parts {w : World} : ∀ {I J : List It} {P : Nat → Prop}, Sep w (I ++ J) P → ∃ A B : Nat → Prop, (∀ k, A k → P k) ∧ (∀ k, B k → P k) ∧ (∀ k, A k → B k → False) ∧ Sep w I A ∧ Sep w J B
  | [], J, P, h => ⟨fun _ => False, P, fun _ h => h.elim, fun _ h => h, fun _ h _ => h, trivial, h⟩
  | x :: I, J, P, ⟨C, D, c1, c2, c3, c4, c5⟩ => by
    obtain ⟨A, B, h1, h2, h3, h4, h5⟩ := Sep.parts (I := I) (J := J) c5
    exact ⟨fun k => C k ∨ A k, B, fun k hk => hk.elim (c1 k) fun h => c2 k (h1 k h), fun k hk => c2 k (h2 k hk), fun k hk hb => hk.elim (fun hc => c3 k hc (h2 k hb)) fun ha => h3 k ha hb, ⟨C, A, fun _ => Or.inl, fun _ => Or.inr, fun k hc ha => c3 k hc (h1 k ha), c4, h4⟩, h5⟩
/-- the part at a place, and the others -/
theorem Sep.pick {w : World} : ∀ {I : List It} (i : Nat) {x : It} {P : Nat → Prop}, Sep w I P → I[i]? = some x → Sep w (x :: I.eraseIdx i) P
  | [], i, x, P, _, h => by cases h
  | y :: I, 0, x, P, hs, h => by simp at h; subst h; exact hs
  | y :: I, i + 1, x, P, hs, h => by
    have h' : I[i]? = some x := by simpa using h
    exact (hs.under fun P h => Sep.pick i h h').swap
theorem Sep.unpick {w : World} : ∀ {I : List It} (i : Nat) {x y : It} {P : Nat → Prop}, I[i]? = some x → Sep w (y :: I.eraseIdx i) P → Sep w (I.set i y) P
  | [], i, x, y, P, h, _ => by cases h
  | z :: I, 0, x, y, P, h, hs => hs
  | z :: I, i + 1, x, y, P, h, hs => by
    have h' : I[i]? = some x := by simpa using h
    exact Sep.under (Sep.swap hs) fun P h => Sep.unpick i h' h
theorem Sep.row {w : World} {I : List It} {P : Nat → Prop} (h : Sep w I P) (i : Nat) {b : Nat} {t : TypeId} {cs : Array Value} (hi : I[i]? = some (.row b t cs)) : P b ∧ w.heap[b]? = some (.cells cs t (0, 0)) := by
  obtain ⟨A, B, h1, h2, h3, h4, h5⟩ := Sep.pick i h hi
  exact ⟨h1 b h4.1, h4.2⟩
/-- the table of the signs between two, as cells -/
def tabC : List Value := Sx.tights.flatMap fun x => [.string (Lx.S x.1), .int .i64 x.2.2, .int .i64 x.2.1]
def TabAt (w : World) : Prop := ∀ j v, tabC[j]? = some v → w.cell? ⟨5, j, none⟩ = some v
/-- where a call may begin: the blocks are there, and none is the table's -/
structure Gd (w : World) (P : Nat → Prop) : Prop where
  lt : ∀ k, P k → k < w.heap.size
  no : ¬ P 5
  tab : TabAt w
/-- a walk's state: what was, and the parts now -/
structure St (X : Nat → Prop) (w0 w : World) (I : List It) : Prop where
  gd : Gd w0 X
  rest : Rest X w0 w
  sep : Sep w I fun k => k < w.heap.size ∧ (X k ∨ w0.heap.size ≤ k)
theorem St.start {X : Nat → Prop} {w : World} {I : List It} (hX : Gd w X) (h : Sep w I X) : St X w w I := ⟨hX, Rest.refl X w, h.wide fun k hk => ⟨hX.lt k hk, Or.inl hk⟩⟩
theorem St.to {X : Nat → Prop} {w0 w : World} {I J : List It} (h : St X w0 w I) (e : ∀ P, Sep w I P → Sep w J P) : St X w0 w J := ⟨h.gd, h.rest, e _ h.sep⟩
theorem St.row {X : Nat → Prop} {w0 w : World} {I : List It} (h : St X w0 w I) (i : Nat) {b : Nat} {t : TypeId} {cs : Array Value} (hi : I[i]? = some (.row b t cs)) : w.heap[b]? = some (.cells cs t (0, 0)) := (h.sep.row i hi).2
theorem heap_push {w : World} {o : Obj} {k : Nat} (h : k < w.heap.size) : (w.alloc o).heap[k]? = w.heap[k]? := by
  show (w.heap.push o)[k]? = _
  rw [Array.getElem?_push_lt h, Array.getElem?_eq_getElem h]
/-- a new block -/
theorem St.alloc {X : Nat → Prop} {w0 w : World} {x : It} {I : List It} (h : St X w0 w (x :: I)) (cs : Array Value) (t : TypeId) : St X w0 (w.alloc (.cells cs t)) (x :: .row w.heap.size t cs :: I) := by
  have hsz : (w.alloc (.cells cs t)).heap.size = w.heap.size + 1 := Array.size_push _
  refine ⟨h.gd, ⟨h.rest.os, h.rest.tape, h.rest.output, by rw [hsz]; have := h.rest.size; omega, fun k hk hx => (heap_push (Nat.lt_of_lt_of_le hk h.rest.size)).trans (h.rest.block k hk hx)⟩, ?_⟩
  refine Sep.swap (Sep.cons (A := fun k => k = w.heap.size) (B := fun k => k < w.heap.size ∧ (X k ∨ w0.heap.size ≤ k)) ⟨rfl, heap_alloc_last w _⟩ (h.sep.loc fun k hk => heap_push hk.1) ?_ ?_ ?_)
  · rintro k rfl
    exact ⟨by rw [hsz]; omega, Or.inr h.rest.size⟩
  · exact fun k hk => ⟨by rw [hsz]; omega, hk.2⟩
  · rintro k rfl hk
    omega
theorem size_setRow (w : World) (b : Nat) (ds : Array Value) : (w.setRow b ds).heap.size = w.heap.size := by simp
theorem St.alloc0 {X : Nat → Prop} {w0 w : World} {I : List It} (h : St X w0 w I) (cs : Array Value) (t : TypeId) : St X w0 (w.alloc (.cells cs t)) (.row w.heap.size t cs :: I) := by
  have hh : St X w0 w (.hp ⟨fun _ _ => True, fun _ _ _ _ _ => trivial, fun _ _ _ _ _ => trivial⟩ :: I) := ⟨h.gd, h.rest, Sep.cons (A := fun _ => False) trivial h.sep (fun _ h => h.elim) (fun _ h => h) fun _ h _ => h⟩
  have h2 := hh.alloc cs t
  exact ⟨h2.gd, h2.rest, h2.sep.drop⟩
/-- a block written anew -/
theorem St.set {X : Nat → Prop} {w0 w : World} {I : List It} (h : St X w0 w I) (i : Nat) {b : Nat} {t : TypeId} {cs : Array Value} (hi : I[i]? = some (.row b t cs)) (ds : Array Value) : St X w0 (w.setRow b ds) (I.set i (.row b t ds)) := by
  obtain ⟨A, B, h1, h2, h3, h4, h5⟩ := Sep.pick i h.sep hi
  refine ⟨h.gd, ⟨h.rest.os, h.rest.tape, h.rest.output, by rw [size_setRow]; exact h.rest.size, fun k hk hx => ?_⟩, ?_⟩
  · have hb := (h1 b h4.1).2
    rw [setRow_other w b k ds (fun e => by subst e; rcases hb with hb | hb; exact hx hb; omega)]
    exact h.rest.block k hk hx
  · refine Sep.unpick i hi (Sep.cons (A := fun k => k = b) ⟨rfl, setRow_heap w b _ _ _ _ h4.2⟩ (h5.loc fun k hk => setRow_other w b k ds (fun e => h3 k (e ▸ h4.1) hk)) ?_ ?_ ?_)
    · rintro k rfl
      rw [size_setRow]; exact h1 k h4.1
    · intro k hk; rw [size_setRow]; exact h2 k hk
    · rintro k rfl hk; exact h3 k h4.1 hk
theorem St.tab {X : Nat → Prop} {w0 w : World} {I : List It} (h : St X w0 w I) : TabAt w := fun j v hj => by
  have h1 := h.gd.tab j v hj
  rw [World.cell?_of_block (w := w0) (h.rest.block _ (cell_lt h1) h.gd.no)]
  exact h1
theorem TabAt.lt {w : World} (h : TabAt w) : 5 < w.heap.size := cell_lt (h 0 _ rfl)
theorem St.gdAt {X : Nat → Prop} {w0 w : World} {I : List It} (h : St X w0 w I) {A : Nat → Prop} (h1 : ∀ k, A k → k < w.heap.size ∧ (X k ∨ w0.heap.size ≤ k)) : Gd w A :=
  ⟨fun k hk => (h1 k hk).1, fun hA => (h1 _ hA).2.elim h.gd.no fun hl => absurd h.gd.tab.lt (Nat.not_lt_of_le hl), h.tab⟩
/-- what a function makes of a list of parts -/
def Fn (f : FuncId) (args : Array Value) (pre : List It) (post : Ending → List It → Prop) : Prop :=
  ∀ (w : World) (P : Nat → Prop), Gd w P → Sep w pre P → Calls Tryz.prog f args w fun e w' => ∃ J, post e J ∧ St P w w' J
theorem St.call {X : Nat → Prop} {w0 w : World} {I pre : List It} {f : FuncId} {args : Array Value} {post : Ending → List It → Prop} (h : St X w0 w (pre ++ I)) (c : Fn f args pre post) :
    Calls Tryz.prog f args w fun e w' => ∃ J, post e J ∧ St X w0 w' (J ++ I) := by
  obtain ⟨A, B, h1, h2, h3, h4, h5⟩ := Sep.parts h.sep
  refine (c w A (h.gdAt h1) h4).mono ?_
  rintro e w' ⟨J, hp, hs⟩
  refine ⟨J, hp, h.gd, ⟨hs.rest.os.trans h.rest.os, hs.rest.tape.trans h.rest.tape, hs.rest.output.trans h.rest.output, Nat.le_trans h.rest.size hs.rest.size, fun k hk hx => ?_⟩, ?_⟩
  · have hk' := Nat.lt_of_lt_of_le hk h.rest.size
    rw [hs.rest.block k hk' (fun ha => by rcases (h1 k ha).2 with hq | hq; exact hx hq; omega)]
    exact h.rest.block k hk hx
  · refine Sep.cat hs.sep (h5.loc fun k hk => hs.rest.block k (h2 k hk).1 (fun ha => h3 k ha hk)) ?_ ?_ ?_
    · rintro k ⟨hk, hk2 | hk2⟩
      · exact ⟨hk, (h1 k hk2).2⟩
      · exact ⟨hk, Or.inr (Nat.le_trans h.rest.size hk2)⟩
    · exact fun k hk => ⟨Nat.lt_of_lt_of_le (h2 k hk).1 hs.rest.size, (h2 k hk).2⟩
    · rintro k ⟨hk, hk2 | hk2⟩ hb
      · exact h3 k hk2 hb
      · have := (h2 k hb).1; omega
theorem St.call1 {X : Nat → Prop} {w0 w : World} {x : It} {I : List It} {f : FuncId} {args : Array Value} {post : Ending → List It → Prop} (h : St X w0 w (x :: I)) (c : Fn f args [x] post) :
    Calls Tryz.prog f args w fun e w' => ∃ J, post e J ∧ St X w0 w' (J ++ I) := St.call (pre := [x]) h c
section
variable {ops : Array Oper} {rest : List Oper} {o : Oper} {a : Act} {w w0 : World} {X : Nat → Prop} {x : It} {I : List It} {Q : Exit → Act → World → Prop} {K : Act → World → Prop} {b n k i : Nat} {t : TypeId} {cs ds : Array Value} {v : Value}
/-- a type's zero, as cells -/
def Zero (t : TypeId) (zc : Array Value) : Prop := (Tryz.prog.info? t).map (fun i => i.zero.map (·.cells)) = some (some zc)
def alOf (o : Oper) : Option TypeId := match o.guard, o.op with | none, .alloc t => some t | _, _ => none
theorem wpl_alloc (h : St X w0 w (x :: I)) (zc : Array Value) (ho : alOf o = some t) (hz : Zero t zc)
    (k : ∀ (b : Nat) (w' : World), Hid (St X w0 w' (x :: .row b t zc :: I)) → wpList Tryz.prog ops Q rest (a.put o.dst (.pointer (some ⟨b, 0, none⟩))) w') : wpList Tryz.prog ops Q (o :: rest) a w := by
  unfold alOf at ho
  split at ho
  · next t' hg hop =>
    simp at ho; subst ho
    refine wpList_plain hg fun K hK => ?_
    unfold Oper.wp execOp
    unfold Zero at hz
    cases hi : Tryz.prog.info? t' with
    | none => simp [hi] at hz
    | some i =>
      cases hzz : i.zero with
      | none => simp [hi, hzz] at hz
      | some z =>
        simp [hi, hzz] at hz
        subst hz
        have hr : (Instr.alloc t' true (.tuple #[])).run Tryz.prog w = .ok (.pointer (some ⟨w.heap.size, 0, none⟩)) (w.alloc (.cells z.cells t')) := by
          simp [Instr.alloc, zeroValue, typeInfo, hi, hzz, newVar, newRow]
        simp only [hop, Sem.run_bind, hr, Result.andThen_ok, Sem.run_pure]
        exact hK _ _ (k _ _ (Lib.hid (h.alloc z.cells t')))
  · cases ho
theorem wpl_alloc0 (h : St X w0 w I) (zc : Array Value) (ho : alOf o = some t) (hz : Zero t zc)
    (k : ∀ (b : Nat) (w' : World), Hid (St X w0 w' (.row b t zc :: I)) → wpList Tryz.prog ops Q rest (a.put o.dst (.pointer (some ⟨b, 0, none⟩))) w') : wpList Tryz.prog ops Q (o :: rest) a w := by
  unfold alOf at ho
  split at ho
  · next t' hg hop =>
    simp at ho; subst ho
    refine wpList_plain hg fun K hK => ?_
    unfold Oper.wp execOp
    unfold Zero at hz
    cases hi : Tryz.prog.info? t' with
    | none => simp [hi] at hz
    | some i =>
      cases hzz : i.zero with
      | none => simp [hi, hzz] at hz
      | some z =>
        simp [hi, hzz] at hz
        subst hz
        have hr : (Instr.alloc t' true (.tuple #[])).run Tryz.prog w = .ok (.pointer (some ⟨w.heap.size, 0, none⟩)) (w.alloc (.cells z.cells t')) := by
          simp [Instr.alloc, zeroValue, typeInfo, hi, hzz, newVar, newRow]
        simp only [hop, Sem.run_bind, hr, Result.andThen_ok, Sem.run_pure]
        exact hK _ _ (k _ _ (Lib.hid (h.alloc0 z.cells t')))
  · cases ho
def bxOf (a : Act) (o : Oper) : Option (TypeId × Value) := match o.guard, o.op with | none, .box t x => some (t, a.eval x) | _, _ => none
theorem wpl_box (h : St X w0 w (x :: I)) (ho : bxOf a o = some (t, v)) (hc : v.cells = cs)
    (k : ∀ (b : Nat) (w' : World), Hid (St X w0 w' (x :: .row b t cs :: I)) → wpList Tryz.prog ops Q rest (a.put o.dst (.pointer (some ⟨b, 0, none⟩))) w') : wpList Tryz.prog ops Q (o :: rest) a w := by
  unfold bxOf at ho
  split at ho
  · next t' y hg hop =>
    simp at ho; obtain ⟨rfl, rfl⟩ := ho
    subst hc
    refine wpList_plain hg fun K hK => ?_
    unfold Oper.wp execOp
    simp only [hop, Sem.run_bind, Instr.box, newVar, newRow, run_newObj_alloc, Sem.run_pure, Result.andThen_ok]
    exact hK _ _ (k _ _ (Lib.hid (h.alloc _ t')))
  · cases ho
theorem wpl_loadS (h : St X w0 w I) (i : Nat) (ho : ldOf a o = some (t, .pointer (some ⟨b, 0, none⟩))) (hI : I[i]? = some (.row b t cs)) (T : StructT t n) (hn : cs.size = n)
    (k : wpList Tryz.prog ops Q rest (a.put o.dst (.agg cs)) w) : wpList Tryz.prog ops Q (o :: rest) a w :=
  wpList_load_blk T ⟨h.row i hI, hn⟩ ho k
theorem wpl_storeS (h : St X w0 w I) (i : Nat) (ho : stOf a o = some (t, .pointer (some ⟨b, 0, none⟩), .agg ds)) (hI : I[i]? = some (.row b t cs)) (T : StructT t n) (hn : cs.size = n) (F : Fits n ds)
    (k : ∀ w', Hid (St X w0 w' (I.set i (.row b t ds))) → wpList Tryz.prog ops Q rest (a.put o.dst undef) w') : wpList Tryz.prog ops Q (o :: rest) a w :=
  wpList_store_blk T ⟨h.row i hI, hn⟩ F ho (k _ (Lib.hid (h.set i hI ds)))
/-- a type of one cell -/
structure One (t : TypeId) : Prop where
  agg : ∀ w, (isAgg t).run Tryz.prog w = .ok false w
  info : (Tryz.prog.info? t).map (·.size) = some 1
theorem wpl_load (h : St X w0 w I) (i : Nat) (ho : ldOf a o = some (t, .pointer (some ⟨b, k, none⟩))) {tb : TypeId} (hI : I[i]? = some (.row b tb cs)) (T : One t) (hv : cs.toList[k]? = some v)
    (hk : wpList Tryz.prog ops Q rest (a.put o.dst v) w) : wpList Tryz.prog ops Q (o :: rest) a w := by
  obtain ⟨hg, y, ho, hx⟩ := ldOf_eq ho
  refine wpList_plain hg fun K hK => ?_
  have hc : w.cell? ⟨b, k, none⟩ = some v := (cell_of_row w b k _ _ _ (h.row i hI)).trans (by rw [← hv, Array.getElem?_toList])
  have hr : (loadVar t ⟨b, k, none⟩).run Tryz.prog w = .ok v w := by
    unfold loadVar
    simp [Sem.run_bind, T.agg w, hc, go_sem]
  unfold Oper.wp execOp
  simp only [ho, hx, Instr.loadAt, Instr.sureAddr, Sem.run_bind, Sem.run_pure, Result.andThen_ok, hr]
  exact hK _ _ hk
theorem wpl_store (h : St X w0 w I) (i : Nat) (ho : stOf a o = some (t, .pointer (some ⟨b, k, none⟩), v)) {tb : TypeId} (hI : I[i]? = some (.row b tb cs)) (T : One t) (hk : k < cs.size) (h1 : v.oneCell' = true)
    (hn : ∀ w', Hid (St X w0 w' (I.set i (.row b tb (cs.setIfInBounds k v)))) → wpList Tryz.prog ops Q rest (a.put o.dst undef) w') : wpList Tryz.prog ops Q (o :: rest) a w := by
  obtain ⟨hg, x, y, ho, hx, hy⟩ := stOf_eq ho
  refine wpList_plain hg fun K hK => ?_
  have hrow := h.row i hI
  have hc : w.cell? ⟨b, k, none⟩ = some cs[k] := (cell_of_row w b k _ _ _ hrow).trans (Array.getElem?_eq_getElem hk)
  have hf : w.frozen? ⟨b, k, none⟩ = false := by simp [World.frozen?, hrow]
  have hcells : v.cells = #[v] := by cases v <;> first | rfl | simp [Value.oneCell'] at h1
  have hr : (storeVar t ⟨b, k, none⟩ v).run Tryz.prog w = .ok () (w.setCell ⟨b, k, none⟩ v) := by
    cases hq : Tryz.prog.info? t with
    | none => have := T.info; rw [hq] at this; cases this
    | some i =>
      have hs : i.size = 1 := by have := T.info; rw [hq] at this; simpa using this
      simp [storeVar, hcells, sizeOf, typeInfo, hq, hs, storeCells, run_store Tryz.prog _ _ v _ h1, Addr.add_zero', hc, hf, Result.andThen]
  unfold Oper.wp execOp
  simp only [ho, hx, hy, Instr.storeAt, Instr.sureAddr, Sem.run_bind, Sem.run_pure, Result.andThen_ok, hr]
  refine hK _ _ (hn _ (Lib.hid ?_))
  rw [setCell_eq_setRow w b k cs tb (0, 0) v hrow]
  exact h.set i hI _
end
theorem St.setCell {X : Nat → Prop} {w0 w : World} {I : List It} (h : St X w0 w I) (i : Nat) {b : Nat} {t : TypeId} {cs : Array Value} (hi : I[i]? = some (.row b t cs)) (k : Nat) (v : Value) : St X w0 (w.setCell ⟨b, k, none⟩ v) (I.set i (.row b t (cs.setIfInBounds k v))) := by
  rw [setCell_eq_setRow w b k cs t (0, 0) v (h.row i hi)]
  exact h.set i hi _
theorem St.cell {X : Nat → Prop} {w0 w : World} {I : List It} (h : St X w0 w I) (i : Nat) {b : Nat} {t : TypeId} {cs : Array Value} (hi : I[i]? = some (.row b t cs)) (k : Nat) : w.cell? ⟨b, k, none⟩ = cs[k]? := cell_of_row w b k _ _ _ (h.row i hi)
theorem St.open {X : Nat → Prop} {w0 w : World} {I : List It} (h : St X w0 w I) (i : Nat) {b : Nat} {t : TypeId} {cs : Array Value} (hi : I[i]? = some (.row b t cs)) (k : Nat) : w.frozen? ⟨b, k, none⟩ = false := by simp [World.frozen?, h.row i hi]
theorem St.drew {X : Nat → Prop} {w0 w : World} {I : List It} (h : St X w0 w I) : St X w0 w.drew I := ⟨h.gd, ⟨h.rest.os, h.rest.tape, h.rest.output, h.rest.size, h.rest.block⟩, h.sep.loc fun _ _ => rfl⟩
theorem St.drewN {X : Nat → Prop} {w0 w : World} {I : List It} (h : St X w0 w I) (n : Nat) : St X w0 (w.drewN n) I := ⟨h.gd, ⟨h.rest.os, h.rest.tape, h.rest.output, h.rest.size, h.rest.block⟩, h.sep.loc fun _ _ => rfl⟩
/-- parts by their places, each place counted among those that are left -/
def selO : List It → List Nat → Option (List It)
  | _, [] => some []
  | I, i :: is => match I[i]?, selO (I.eraseIdx i) is with
    | some x, some J => some (x :: J)
    | _, _ => none
theorem Sep.sel {w : World} : ∀ {I J : List It} {P : Nat → Prop} (is : List Nat), Sep w I P → selO I is = some J → Sep w J P
  | I, J, P, [], h, e => by simp [selO] at e; subst e; trivial
  | I, J, P, i :: is, h, e => by
    unfold selO at e
    split at e
    · next x J' hx hJ => cases e; exact (Sep.pick i h hx).under fun P h => Sep.sel is h hJ
    · cases e
theorem St.sel {X : Nat → Prop} {w0 w : World} {I J : List It} (h : St X w0 w I) (is : List Nat) (e : selO I is = some J) : St X w0 w J := ⟨h.gd, h.rest, h.sep.sel is e⟩
theorem bp_cell {fn : Func} {R : Ending → World → Prop} {a : Act} {w w0 : World} {X : Nat → Prop} {I : List It} {p : Tmp} {t : TypeId} {n b : Nat} {cs : Array Value} (h : St X w0 w I) (i : Nat) (T : StructT t n) (hr : fn.results = #[.cell p t]) (hp : a.tmps.getD p undef = .pointer (some ⟨b, 0, none⟩))
    (hI : I[i]? = some (.row b t cs)) (hn : cs.size = n) (hd : a.defers = []) (hR : R (.returned (.agg cs)) w) : bodyPost Tryz.prog fn R .ret a w :=
  bp_blk T hr hp ⟨h.row i hI, hn⟩ hd hR
end Go.Proofs.YtjfdcnggnldgdaaGreatDoor
end
section
namespace Go.Proofs.YtjfdcnggnldgdaaGreatDoor
open Go.ChangeShapes Go.WideShapes Go.ChangeAt Go.RowKit
set_option linter.unusedVariables false
set_option linter.unusedSimpArgs false

theorem rone_any (s : ByteArray) (hs : s.size ≤ 281474976710000) (k : Nat) (hk : k < s.size) (hb : Lx.blank (s[k]'hk) = false) (w : World) :
    Calls Tryz.prog 64 #[.string s, .int .i64 (k : Int)] w fun e w' => e = .returned (.tuple #[.agg (tkA (Lx.one 0 (s.data.toList.drop k)).1.kind k (Lx.one 0 (s.data.toList.drop k)).1.num (Lx.S (Lx.one 0 (s.data.toList.drop k)).1.text)), .int .i64 (Lx.cnt (s.data.toList.drop k) : Nat)]) ∧ Below w.heap.size w w' := by
  have hg := Lx.get s k hk
  obtain ⟨c, hc⟩ : ∃ c, s[k]'hk = c := ⟨_, rfl⟩
  obtain ⟨r, hr⟩ : ∃ r, s.data.toList.drop (k + 1) = r := ⟨_, rfl⟩
  rw [hc, hr] at hg
  cases hl : Lx.letter c
  · cases hd : Lx.digit c
    · refine (rone_sign s hs k hk (by rw [hc]; exact hl) (by rw [hc]; exact hd) (fun e => by rw [e] at hb; exact absurd hb (by decide)) w).mono ?_
      rintro e w' ⟨rfl, hw⟩
      refine ⟨?_, hw⟩
      rw [hg]
      unfold Lx.cnt Lx.one
      simp [hl, hd]
    · refine (rone_num s hs k hk (by rw [hc]; exact hl) (by rw [hc]; exact hd) w).mono ?_
      rintro e w' ⟨rfl, hw⟩
      refine ⟨?_, hw⟩
      rw [hg]
      unfold Lx.cnt Lx.one
      simp [hl, hd, Lx.S]
  · have hd : Lx.digit c = false := by
      cases hd : Lx.digit c
      · rfl
      · unfold Lx.letter Lx.digit at *; simp at hl hd; omega
    refine (rone_name s hs k hk (by rw [hc]; exact hl) (by rw [hc]; exact hd) w).mono ?_
    rintro e w' ⟨rfl, hw⟩
    refine ⟨?_, hw⟩
    rw [hg]
    unfold Lx.cnt Lx.one
    simp [hl]
theorem Lx.nxt_drop (l : List UInt8) (p : Nat) : l.drop (Lx.nxt l p) = Lx.left (l.drop p) := by
  unfold Lx.nxt Lx.left; rw [List.drop_drop]
theorem Lx.nxt_le (l : List UInt8) (p : Nat) (h : p ≤ l.length) : Lx.nxt l p ≤ l.length ∧ p ≤ Lx.nxt l p := by
  have h1 := Lx.skip_le false (l.drop p)
  rw [List.length_drop] at h1
  unfold Lx.nxt; omega
theorem Lx.left_head {m r : List UInt8} {c : UInt8} (h : Lx.left m = c :: r) : Lx.blank c = false := by
  have hl := Lx.left_len m
  have h1 : Lx.skip false m < m.length := by rw [h, List.length_cons] at hl; omega
  obtain ⟨d, u, h2, h3, _⟩ := Lx.skip_head false m h1
  have h4 : Lx.left m = d :: u := h2
  rw [h] at h4; cases h4; exact h3
end Go.Proofs.YtjfdcnggnldgdaaGreatDoor
end
section
namespace Go.Proofs.YtjfdcnggnldgdaaGreatDoor
open Go.ChangeShapes Go.WideShapes Go.ChangeAt Go.RowKit
set_option linter.unusedVariables false
set_option linter.unusedSimpArgs false

/-- the tokens, as they lie -/
def toksHp (a : Addr) (L : List Lx.Tok) : Hp where
  on w P := P a.block ∧ ∀ k (hk : k < L.length), OnC w (a.add (k * 4)) (tkC L[k])
  loc w w' P h e := ⟨h.1, fun k hk j u hj => by
    have h1 := h.2 k hk j u hj
    rw [World.cell?_of_block (w := w) (w' := w') (by rw [Go.Deep.add_add]; exact e _ (by rw [show (a.add (k * 4 + j)).block = a.block from by unfold Addr.add; split <;> rfl]; exact h.1))]
    exact h1⟩
  wide w P P' h e := ⟨e _ h.1, h.2⟩
/-- which token is at hand: the last one behind an error -/
def Sx.cur (L : List Lx.Tok) (σ : Sx.R) : Nat := if σ.err = 0 then σ.at' else L.length - 1
def Sx.pk (L : List Lx.Tok) (σ : Sx.R) : Lx.Tok := L.getD (Sx.cur L σ) ⟨0, 0, 0, []⟩
def rdC (a : Addr) (cap : Nat) (L : List Lx.Tok) (c : Nat) (m e p : Int) : Array Value := #[.slice (some (a.add (c * 4))) (L.length - c) (cap - c), .int .i64 m, .int .i64 e, .int .i64 p]
/-- a reader in block b, that is in a state -/
structure RdAt (a : Addr) (cap : Nat) (L : List Lx.Tok) (σ : Sx.R) (c : Nat) (m e p : Int) : Prop where
  hcap : L.length ≤ cap
  hbig : L.length < 281474976710656
  hat : σ.at' < L.length
  hc : c = Sx.cur L σ
  he : e = σ.err
  hp : p = σ.pos
  hz : σ.err = 0 → σ.pos = 0
  hm : σ.err = 0 → m = σ.opn ∧ 0 ≤ m ∧ m ≤ 64
def rdHp (b : Nat) (L : List Lx.Tok) (σ : Sx.R) : Hp where
  on w P := ∃ a cap c m e p, RdAt a cap L σ c m e p ∧ Sep w [.row b 69 (rdC a cap L c m e p), .hp (toksHp a L)] P
  loc w w' P h e := by obtain ⟨a, cap, c, m, x, p, h1, h2⟩ := h; exact ⟨a, cap, c, m, x, p, h1, h2.loc e⟩
  wide w P P' h e := by obtain ⟨a, cap, c, m, x, p, h1, h2⟩ := h; exact ⟨a, cap, c, m, x, p, h1, h2.wide e⟩
abbrev rd (b : Nat) (L : List Lx.Tok) (σ : Sx.R) : It := .hp (rdHp b L σ)
theorem rd_open {w : World} {b : Nat} {L : List Lx.Tok} {σ : Sx.R} {I : List It} {P : Nat → Prop} (h : Sep w (rd b L σ :: I) P) : ∃ a cap c m e p, RdAt a cap L σ c m e p ∧ Sep w (.row b 69 (rdC a cap L c m e p) :: .hp (toksHp a L) :: I) P := by
  obtain ⟨A, B, h1, h2, h3, ⟨a, cap, c, m, e, p, hr, hs⟩, h5⟩ := h
  exact ⟨a, cap, c, m, e, p, hr, Sep.cat hs h5 h1 h2 h3⟩
theorem rd_close {w : World} {b : Nat} {L : List Lx.Tok} {σ : Sx.R} {I : List It} {a : Addr} {cap c : Nat} {m e p : Int} {P : Nat → Prop} (hr : RdAt a cap L σ c m e p) (h : Sep w (.row b 69 (rdC a cap L c m e p) :: .hp (toksHp a L) :: I) P) : Sep w (rd b L σ :: I) P := by
  obtain ⟨A, B, h1, h2, h3, h4, h5⟩ := Sep.parts (I := [.row b 69 (rdC a cap L c m e p), .hp (toksHp a L)]) (J := I) h
  exact ⟨A, B, h1, h2, h3, ⟨a, cap, c, m, e, p, hr, h4⟩, h5⟩
theorem St.rdOpen {X : Nat → Prop} {w0 w : World} {b : Nat} {L : List Lx.Tok} {σ : Sx.R} {I : List It} (h : St X w0 w (rd b L σ :: I)) : ∃ a cap c m e p, RdAt a cap L σ c m e p ∧ St X w0 w (.row b 69 (rdC a cap L c m e p) :: .hp (toksHp a L) :: I) := by
  obtain ⟨a, cap, c, m, e, p, hr, hs⟩ := rd_open h.sep
  exact ⟨a, cap, c, m, e, p, hr, h.gd, h.rest, hs⟩
theorem St.rdClose {X : Nat → Prop} {w0 w : World} {b : Nat} {L : List Lx.Tok} {σ : Sx.R} {I : List It} {a : Addr} {cap c : Nat} {m e p : Int} (hr : RdAt a cap L σ c m e p) (h : St X w0 w (.row b 69 (rdC a cap L c m e p) :: .hp (toksHp a L) :: I)) : St X w0 w (rd b L σ :: I) := ⟨h.gd, h.rest, rd_close hr h.sep⟩
theorem cur_lt {L : List Lx.Tok} {σ : Sx.R} (h : σ.at' < L.length) : Sx.cur L σ < L.length := by unfold Sx.cur; split <;> omega
theorem tokZ : Zero 77 (tkA 0 0 0 ⟨#[]⟩) := by unfold Zero; kernel_rfl
theorem intO : One 3 := ⟨fun w => by unfold isAgg; rw [Sem.run_bind, run_underlying Tryz.underlying3 w]; rfl, by kernel_rfl⟩
theorem strO : One 9 := ⟨fun w => by unfold isAgg; rw [Sem.run_bind, run_underlying Tryz.underlying9 w]; rfl, by kernel_rfl⟩
theorem boolO : One 4 := ⟨fun w => by unfold isAgg; rw [Sem.run_bind, run_underlying Tryz.underlying4 w]; rfl, by kernel_rfl⟩
theorem toksO : One 64 := ⟨fun w => by unfold isAgg; rw [Sem.run_bind, run_underlying Tryz.underlying64 w]; rfl, by kernel_rfl⟩
theorem exprsO : One 51 := ⟨fun w => by unfold isAgg; rw [Sem.run_bind, run_underlying Tryz.underlying51 w]; rfl, by kernel_rfl⟩
theorem stmtsO : One 48 := ⟨fun w => by unfold isAgg; rw [Sem.run_bind, run_underlying Tryz.underlying48 w]; rfl, by kernel_rfl⟩
theorem paramsO : One 45 := ⟨fun w => by unfold isAgg; rw [Sem.run_bind, run_underlying Tryz.underlying45 w]; rfl, by kernel_rfl⟩
theorem funcsO : One 22 := ⟨fun w => by unfold isAgg; rw [Sem.run_bind, run_underlying Tryz.underlying22 w]; rfl, by kernel_rfl⟩
theorem ptrO : One 67 := ⟨fun w => by unfold isAgg; rw [Sem.run_bind, run_underlying Tryz.underlying67 w]; rfl, by kernel_rfl⟩
/-- the token at hand, where it lies -/
theorem toks_at {w : World} {a : Addr} {L : List Lx.Tok} {P : Nat → Prop} (h : (toksHp a L).on w P) {σ : Sx.R} (hi : σ.at' < L.length) : OnC w (a.add (Sx.cur L σ * 4)) (tkC (Sx.pk L σ)) := by
  have hl := cur_lt hi
  have he : Sx.pk L σ = L[Sx.cur L σ] := by unfold Sx.pk; rw [List.getD_eq_getElem?_getD, List.getElem?_eq_getElem hl]; rfl
  rw [he]; exact h.2 _ hl
theorem tokF0 (x0 x1 x2 x3 : Value) (w : World) : (Instr.field 77 (.agg #[x0, x1, x2, x3]) 0).run Tryz.prog w = .ok x0 w := by kernel_rfl
theorem tokF1 (x0 x1 x2 x3 : Value) (w : World) : (Instr.field 77 (.agg #[x0, x1, x2, x3]) 1).run Tryz.prog w = .ok x1 w := by kernel_rfl
theorem tokF2 (x0 x1 x2 x3 : Value) (w : World) : (Instr.field 77 (.agg #[x0, x1, x2, x3]) 2).run Tryz.prog w = .ok x2 w := by kernel_rfl
theorem tokF3 (x0 x1 x2 x3 : Value) (w : World) : (Instr.field 77 (.agg #[x0, x1, x2, x3]) 3).run Tryz.prog w = .ok x3 w := by kernel_rfl
/-- a token, loaded -/
theorem wpl_tok {ops : Array Oper} {rest : List Oper} {o : Oper} {a : Act} {w : World} {Q : Exit → Act → World → Prop} {p : Addr} {x : Lx.Tok} (h : OnC w p (tkC x)) (ho : ldOf a o = some (77, .pointer (some p)))
    (k : wpList Tryz.prog ops Q rest (a.put o.dst (.agg (tkA x.kind x.pos x.num (Lx.S x.text)))) w) : wpList Tryz.prog ops Q (o :: rest) a w := by
  obtain ⟨hg, y, ho, hx⟩ := ldOf_eq ho
  refine wpList_plain hg fun K hK => ?_
  obtain ⟨fs, hu⟩ := tokT.und
  have hl := run_loadCells_list (P := Tryz.prog) w p (tkC x) h
  have hr : (loadVar 77 p).run Tryz.prog w = .ok (.agg (tkA x.kind x.pos x.num (Lx.S x.text))) w := by
    have hi := tokT.info
    cases hq : Tryz.prog.info? 77 with
    | none => rw [hq] at hi; cases hi
    | some i =>
      have hs : i.size = 4 := by rw [hq] at hi; simpa using hi
      have hagg : (isAgg 77).run Tryz.prog w = .ok true w := by
        unfold isAgg
        rw [Sem.run_bind, run_underlying hu w]
        rfl
      have hl' : (loadCells p 4).run Tryz.prog w = .ok (tkA x.kind x.pos x.num (Lx.S x.text)) w := hl
      simp [loadVar, Sem.run_bind, hagg, sizeOf, typeInfo, hq, hs, hl']
  unfold Oper.wp execOp
  simp only [ho, hx, Instr.loadAt, Instr.sureAddr, Sem.run_bind, Sem.run_pure, Result.andThen_ok, hr]
  exact hK _ _ k
set_option maxHeartbeats 4000000 in
set_option maxRecDepth 100000 in
theorem next_fn (b : Nat) (L : List Lx.Tok) (σ : Sx.R) : Fn 61 #[.pointer (some ⟨b, 0, none⟩)] [rd b L σ]
    fun e J => e = .returned (.agg #[.int .i64 (Sx.pk L σ).kind, .int .i64 (Sx.pk L σ).pos, .int .i64 (Sx.pk L σ).num, .string (Lx.S (Sx.pk L σ).text)]) ∧ J = [rd b L σ] := by
  intro w P hP hs
  obtain ⟨a, cap, c, m, e, p, hr, hs1⟩ := (St.start hP hs).rdOpen
  have HS := Lib.hid hs1
  have hcl := cur_lt hr.hat
  have hc := hr.hc
  have hn : 0 < L.length - c := by omega
  have HR := Lib.hid hr
  clear hr hs1 hs hP
  go_enter Tryz.func61, Tryz.ntmps61
  go_wp2_with (first
    | (refine wpl_alloc HS.out _ rfl tokZ ?_; intro b1 w1 HS1; have HK := Lib.hid (toks_at ((HS1.out.sep.pick 2 rfl).choose_spec.choose_spec.2.2.2.1) HR.out.hat))
    | (refine wpl_load HS1.out 0 rfl rfl toksO rfl ?_)
    | (refine wpl_tok HK.out rfl ?_)
    | (refine wpl_storeS HS1.out 1 rfl rfl tokT rfl (fitsT _ _ _ _) ?_; intro w2 HS2))
  try simp only [Exit.inBlock, Exit.then]
  refine bp_cell HS2.out 1 tokT rfl rfl rfl rfl rfl ⟨_, ⟨rfl, rfl⟩, (HS2.out.sel [0, 1] rfl).rdClose HR.out⟩
/-- an error as a value, within the reader -/
theorem wpl_loadBad {ops : Array Oper} {rest : List Oper} {o : Oper} {a : Act} {w w0 : World} {X : Nat → Prop} {I : List It} {Q : Exit → Act → World → Prop} {ad : Addr} {cap c b : Nat} {L : List Lx.Tok} {m e p : Int} (h : St X w0 w I) (i : Nat) (ho : ldOf a o = some (27, .pointer (some ⟨b, 2, none⟩)))
    (hI : I[i]? = some (.row b 69 (rdC ad cap L c m e p))) (k : wpList Tryz.prog ops Q rest (a.put o.dst (.agg (bdA e p))) w) : wpList Tryz.prog ops Q (o :: rest) a w := by
  obtain ⟨hg, x, ho, hx⟩ := ldOf_eq ho
  obtain ⟨fs, hu⟩ := badT.und
  refine wpList_load_mid hg _ x ho b 2 hx [.int .i64 e, .int .i64 p] _ (fun j v hj => ?_) hu rfl (by rw [badT.info]; rfl) k
  rw [h.cell i hI]
  rcases j with _ | _ | j <;> simp [rdC] at hj ⊢ <;> exact hj
theorem wpl_storeBad {ops : Array Oper} {rest : List Oper} {o : Oper} {a : Act} {w w0 : World} {X : Nat → Prop} {I : List It} {Q : Exit → Act → World → Prop} {ad : Addr} {cap c b : Nat} {L : List Lx.Tok} {m e p : Int} (h : St X w0 w I) (i : Nat) (e' p' : Int) (ho : stOf a o = some (27, .pointer (some ⟨b, 2, none⟩), .agg (bdA e' p')))
    (hI : I[i]? = some (.row b 69 (rdC ad cap L c m e p))) (k : ∀ w', Hid (St X w0 w' (I.set i (.row b 69 (rdC ad cap L c m e' p')))) → wpList Tryz.prog ops Q rest (a.put o.dst undef) w') : wpList Tryz.prog ops Q (o :: rest) a w := by
  obtain ⟨hg, x, y, ho, hx, hy⟩ := stOf_eq ho
  refine wpList_store_mid hg _ x y ho b 2 (bdA e' p') hx hy (fun j hj => ⟨?_, h.open i hI _⟩) (by rw [badT.info]; rfl) (by simp [Value.oneCell']) (k _ (Lib.hid ?_))
  · rw [h.cell i hI]
    have : j < 2 := hj
    rcases (show j = 0 ∨ j = 1 by omega) with rfl | rfl <;> rfl
  · have h1 := h.setCell i hI 2 (.int .i64 e')
    have hI' : (I.set i (.row b 69 ((rdC ad cap L c m e p).setIfInBounds 2 (.int .i64 e'))))[i]? = some (.row b 69 ((rdC ad cap L c m e p).setIfInBounds 2 (.int .i64 e'))) := by
      rw [List.getElem?_set_self]
      exact (List.getElem?_eq_some_iff.1 hI).1
    have h2 := h1.setCell i hI' 3 (.int .i64 p')
    rw [List.set_set] at h2
    exact h2
theorem bad_zero (e p : Int) (h : e = 0 → p = 0) (w : World) : (Op.equalIn 10000 27 (.agg #[.int .i64 e, .int .i64 p]) (.agg #[.int .i64 0, .int .i64 0])).run Tryz.prog w = .ok (decide (e = 0)) w := by
  have h1 := bad_eq e p 0 0 w
  have h2 : (e == 0 && p == 0) = decide (e = 0) := by
    by_cases he : e = 0
    · rw [he, h he]; rfl
    · have : (e == 0) = false := by simpa using he
      rw [this, decide_eq_false he]; rfl
  rw [h2] at h1
  exact h1
set_option maxHeartbeats 4000000 in
set_option maxRecDepth 100000 in
theorem failed_fn (b : Nat) (L : List Lx.Tok) (σ : Sx.R) : Fn 32 #[.pointer (some ⟨b, 0, none⟩)] [rd b L σ]
    fun e J => e = .returned (.bool (decide (σ.err ≠ 0))) ∧ J = [rd b L σ] := by
  intro w P hP hs
  obtain ⟨a, cap, c, m, e, p, hr, hs1⟩ := (St.start hP hs).rdOpen
  have HS := Lib.hid hs1
  have E1 : ∀ w, (Op.equalIn 10000 27 (.agg #[.int .i64 e, .int .i64 p]) (.agg #[.int .i64 0, .int .i64 0])).run Tryz.prog w = .ok (decide (e = 0)) w := fun w => bad_zero e p (fun h => by rw [hr.hp]; exact hr.hz (hr.he ▸ h)) w
  have hd : decide (σ.err ≠ 0) = !decide (e = 0) := by rw [hr.he]; by_cases h : σ.err = 0 <;> simp [h]
  have HR := Lib.hid hr
  have HD := Lib.hid hd
  clear hr hs1 hs hP hd
  go_enter Tryz.func32, Tryz.ntmps32
  go_wp2_with (first
    | (refine wpl_loadBad HS.out 0 rfl rfl ?_))
  go_ret
  exact ⟨_, ⟨by rw [HD.out]; rfl, rfl⟩, (HS.out.sel [0, 0] rfl).rdClose HR.out⟩
end Go.Proofs.YtjfdcnggnldgdaaGreatDoor
end
