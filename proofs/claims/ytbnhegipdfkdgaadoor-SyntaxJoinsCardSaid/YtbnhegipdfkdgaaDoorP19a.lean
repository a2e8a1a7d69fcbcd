/-
Trees of expressions in the heap; slices of them, being made and made.
-/
import Derived.Great.Walk
import Derived.Maps.AppendAt
import Derived.Test.YtbnhegipdfkdgaaDoorP18a
namespace Go.Proofs.YtbnhegipdfkdgaaDoor
open Go.ChangeShapes Go.WideShapes Go.ChangeAt Go.RowKit
set_option linter.unusedVariables false
set_option linter.unusedSimpArgs false

/-- a slice's own row, on some blocks -/
def OwnP (w : World) (P : Nat → Prop) (t : TypeId) (sz : Nat) (v : Value) (n : Nat) (xs : List Value) : Prop := w.ownsRow 0 t sz v n xs ∧ ∀ g, v.ownBlock = some g → P g
theorem OwnP.mono {w w' : World} {P P' : Nat → Prop} {t : TypeId} {sz n : Nat} {v : Value} {xs : List Value} (h : OwnP w P t sz v n xs) (e : ∀ k, P k → w'.heap[k]? = w.heap[k]?) (f : ∀ k, P k → P' k) : OwnP w' P' t sz v n xs := by
  obtain ⟨⟨h1, h2⟩, h3⟩ := h
  refine ⟨⟨h1, h2.imp id ?_⟩, fun g hg => f g (h3 g hg)⟩
  rintro ⟨g, cap, cur, rfl, h4, h5, h6⟩
  exact ⟨g, cap, cur, rfl, h4, by rw [e g (h3 g rfl)]; exact h5, h6⟩
theorem OwnP.one {w : World} {P : Nat → Prop} {t : TypeId} {sz n : Nat} {v : Value} {xs : List Value} (h : OwnP w P t sz v n xs) : v.oneCell' = true := by
  rcases h.1.2 with ⟨rfl, _⟩ | ⟨g, cap, cur, rfl, _⟩ <;> rfl
mutual
/-- cells that are an expression -/
def exOn (w : World) (P : Nat → Prop) : Sx.E → List Value → Prop
  | .mk k p n nm es, cs => ∃ v xs, cs = [.int .i64 k, .int .i64 p, .int .i64 n, .string (Lx.S nm), v] ∧ OwnP w P 44 5 v es.length xs ∧ elOn w P es xs
/-- cells that are expressions, one behind the other -/
def elOn (w : World) (P : Nat → Prop) : List Sx.E → List Value → Prop
  | [], xs => xs = []
  | e :: es, xs => ∃ c r, xs = c ++ r ∧ exOn w P e c ∧ elOn w P es r
end
mutual
theorem exOn_mono {w w' : World} {P P' : Nat → Prop} (e : ∀ k, P k → w'.heap[k]? = w.heap[k]?) (f : ∀ k, P k → P' k) : ∀ (x : Sx.E) (cs : List Value), exOn w P x cs → exOn w' P' x cs
  | .mk k p n nm es, cs, h => by
    rw [exOn] at h ⊢
    obtain ⟨v, xs, h1, h2, h3⟩ := h
    exact ⟨v, xs, h1, h2.mono e f, elOn_mono e f es xs h3⟩
theorem elOn_mono {w w' : World} {P P' : Nat → Prop} (e : ∀ k, P k → w'.heap[k]? = w.heap[k]?) (f : ∀ k, P k → P' k) : ∀ (l : List Sx.E) (xs : List Value), elOn w P l xs → elOn w' P' l xs
  | [], xs, h => by rw [elOn] at h ⊢; exact h
  | x :: es, xs, h => by
    rw [elOn] at h ⊢
    obtain ⟨c, r, h1, h2, h3⟩ := h
    exact ⟨c, r, h1, exOn_mono e f x c h2, elOn_mono e f es r h3⟩
end
theorem exOn_len {w : World} {P : Nat → Prop} : ∀ (x : Sx.E) (cs : List Value), exOn w P x cs → cs.length = 5
  | .mk k p n nm es, cs, h => by
    rw [exOn] at h
    obtain ⟨v, xs, rfl, _⟩ := h
    rfl
theorem elOn_len {w : World} {P : Nat → Prop} : ∀ (l : List Sx.E) (xs : List Value), elOn w P l xs → xs.length = l.length * 5
  | [], xs, h => by rw [elOn] at h; subst h; rfl
  | x :: es, xs, h => by
    rw [elOn] at h
    obtain ⟨c, r, rfl, h2, h3⟩ := h
    rw [List.length_append, exOn_len x c h2, elOn_len es r h3, List.length_cons]; omega
theorem elOn_app {w : World} {P : Nat → Prop} : ∀ (l l' : List Sx.E) (xs ys : List Value), elOn w P l xs → elOn w P l' ys → elOn w P (l ++ l') (xs ++ ys)
  | [], l', xs, ys, h, h' => by rw [elOn] at h; subst h; exact h'
  | x :: es, l', xs, ys, h, h' => by
    rw [elOn] at h
    obtain ⟨c, r, rfl, h2, h3⟩ := h
    rw [List.cons_append, elOn]
    exact ⟨c, r ++ ys, by rw [List.append_assoc], h2, elOn_app es l' r ys h3 h'⟩
theorem elOn_one {w : World} {P : Nat → Prop} {x : Sx.E} {c : List Value} (h : exOn w P x c) : elOn w P [x] c := by
  rw [elOn]
  exact ⟨c, [], by rw [List.append_nil], h, by rw [elOn]⟩
/-! ### as parts -/
/-- a row of its own -/
def ownI (t : TypeId) (sz : Nat) (v : Value) (n : Nat) (xs : List Value) : It := .hp
  { on := fun w P => OwnP w P t sz v n xs
    loc := fun w w' P h e => h.mono e fun _ h => h
    wide := fun w P P' h f => h.mono (fun _ _ => rfl) f }
/-- expressions, as cells -/
def elI (es : List Sx.E) (xs : List Value) : It := .hp
  { on := fun w P => elOn w P es xs
    loc := fun w w' P h e => elOn_mono e (fun _ h => h) es xs h
    wide := fun w P P' h f => elOn_mono (fun _ _ => rfl) f es xs h }
/-- a slice of expressions -/
def lsI (v : Value) (es : List Sx.E) : It := .hp
  { on := fun w P => ∃ xs, Sep w [ownI 44 5 v es.length xs, elI es xs] P
    loc := fun w w' P ⟨xs, h⟩ e => ⟨xs, h.loc e⟩
    wide := fun w P P' ⟨xs, h⟩ f => ⟨xs, h.wide f⟩ }
theorem Sep.join {w : World} {x y z : It} {I : List It} {P : Nat → Prop} (h : Sep w (x :: y :: I) P) (e : ∀ A B : Nat → Prop, x.on w A → y.on w B → z.on w fun k => A k ∨ B k) : Sep w (z :: I) P := by
  obtain ⟨A, B, h1, h2, h3, h4, C, D, h5, h6, h7, h8, h9⟩ := h
  exact ⟨fun k => A k ∨ C k, D, fun k hk => hk.elim (h1 k) fun hc => h2 k (h5 k hc), fun k hk => h2 k (h6 k hk), fun k hk hd => hk.elim (fun ha => h3 k ha (h6 k hd)) fun hc => h7 k hc hd, e A C h4 h8, h9⟩
theorem Sep.split {w : World} {x : It} {I : List It} {P : Nat → Prop} {Q : List It → Prop} (h : Sep w (x :: I) P) (e : ∀ A : Nat → Prop, x.on w A → ∃ K, Q K ∧ Sep w K A) : ∃ K, Q K ∧ Sep w (K ++ I) P := by
  obtain ⟨A, B, h1, h2, h3, h4, h5⟩ := h
  obtain ⟨K, hQ, hK⟩ := e A h4
  exact ⟨K, hQ, Sep.cat hK h5 h1 h2 h3⟩
theorem Sep.map {w : World} {x y : It} {I : List It} {P : Nat → Prop} (h : Sep w (x :: I) P) (e : ∀ A : Nat → Prop, x.on w A → y.on w A) : Sep w (y :: I) P := by
  obtain ⟨A, B, h1, h2, h3, h4, h5⟩ := h
  exact ⟨A, B, h1, h2, h3, e A h4, h5⟩
theorem Sep.emp {w : World} {y : It} {I : List It} {P : Nat → Prop} (h : Sep w I P) (e : y.on w fun _ => False) : Sep w (y :: I) P :=
  ⟨fun _ => False, P, fun _ h => h.elim, fun _ h => h, fun _ h _ => h, e, h⟩
theorem lsI_open {w : World} {I : List It} {P : Nat → Prop} {v : Value} {es : List Sx.E} (h : Sep w (lsI v es :: I) P) : ∃ xs, Sep w (ownI 44 5 v es.length xs :: elI es xs :: I) P := by
  obtain ⟨A, B, h1, h2, h3, ⟨xs, h4⟩, h5⟩ := h
  exact ⟨xs, Sep.cat h4 h5 h1 h2 h3⟩
theorem lsI_close {w : World} {I : List It} {P : Nat → Prop} {v : Value} {es : List Sx.E} {n : Nat} {xs : List Value} (hn : n = es.length) (h : Sep w (ownI 44 5 v n xs :: elI es xs :: I) P) : Sep w (lsI v es :: I) P := by
  subst hn
  obtain ⟨A, B, h1, h2, h3, h4, h5⟩ := Sep.parts (I := [ownI 44 5 v es.length xs, elI es xs]) (J := I) h
  exact ⟨A, B, h1, h2, h3, ⟨xs, h4⟩, h5⟩
/-- an expression's tree, out of its arguments -/
theorem exOn_of {w : World} {P : Nat → Prop} {k p n : Int} {nm : List UInt8} {v : Value} {es : List Sx.E} (h : (lsI v es).on w P) : exOn w P (.mk k p n nm es) [.int .i64 k, .int .i64 p, .int .i64 n, .string (Lx.S nm), v] := by
  obtain ⟨xs, A, B, h1, h2, h3, h4, C, D, h5, h6, h7, h8, h9⟩ := h
  rw [exOn]
  exact ⟨v, xs, rfl, OwnP.mono h4 (fun _ _ => rfl) h1, elOn_mono (fun _ _ => rfl) (fun k hk => h2 k (h5 k hk)) es xs h8⟩
/-- the empty slice -/
theorem lsI_nil {w : World} {I : List It} {P : Nat → Prop} (h : Sep w I P) : Sep w (lsI (.slice none 0 0) [] :: I) P :=
  lsI_close rfl (Sep.emp (Sep.emp h (show elOn w (fun _ => False) [] [] by rw [elOn])) ⟨World.ownsRow_nil _ _ _ _, fun g hg => by cases hg⟩)
/-- one expression in a block of its own -/
theorem lsI_one {w : World} {I : List It} {P : Nat → Prop} {b : Nat} {k p n : Int} {nm : List UInt8} {v : Value} {es : List Sx.E}
    (h : Sep w (.row b 44 #[.int .i64 k, .int .i64 p, .int .i64 n, .string (Lx.S nm), v] :: lsI v es :: I) P) : Sep w (lsI (.slice (some ⟨b, 0, none⟩) 1 1) [.mk k p n nm es] :: I) P := by
  refine lsI_close (n := 1) (xs := [.int .i64 k, .int .i64 p, .int .i64 n, .string (Lx.S nm), v]) rfl ((h.map ?_).under fun P h => h.map ?_)
  · rintro A ⟨h1, h2⟩
    exact ⟨⟨rfl, Or.inr ⟨b, 1, _, rfl, Nat.zero_le _, h2, Nat.le_refl _, by decide, rfl, rfl⟩⟩, fun g hg => by cases hg; exact h1⟩
  · exact fun A hA => elOn_one (exOn_of hA)
/-- one expression more among the elements -/
theorem elI_more {w : World} {I : List It} {P : Nat → Prop} {k p n : Int} {nm : List UInt8} {v : Value} {es l : List Sx.E} {xs : List Value}
    (h : Sep w (elI l xs :: lsI v es :: I) P) : Sep w (elI (l ++ [.mk k p n nm es]) (xs ++ [.int .i64 k, .int .i64 p, .int .i64 n, .string (Lx.S nm), v]) :: I) P :=
  h.join fun A B ha hb => elOn_app _ _ _ _ (elOn_mono (fun _ _ => rfl) (fun _ => Or.inl) l xs ha) (elOn_one (exOn_mono (fun _ _ => rfl) (fun _ => Or.inr) _ _ (exOn_of hb)))
/-! ### a slice made, a slice that grows -/
section
variable {ops : Array Oper} {rest : List Oper} {o : Oper} {a : Act} {w w0 : World} {X : Nat → Prop} {x : It} {I : List It} {Q : Exit → Act → World → Prop} {b n k i : Nat} {t e : TypeId} {cs : Array Value} {v : Value}
/-- a slice literal: the type, how many elements, and which -/
def bsOf (a : Act) (o : Oper) : Option (TypeId × Nat × List (Nat × Value)) := match o.guard, o.op with | none, .buildSlice t n parts => some (t, n, parts.toList.map fun p => (p.1, a.eval p.2)) | _, _ => none
theorem wpl_slice (h : St X w0 w (x :: I)) (ho : bsOf a o = some (t, 1, [(0, .agg cs)])) (hu : Tryd.prog.underlying t = some (.slice e)) (hb : Tryd.prog.builtSlice e 1 [(0, .agg cs)] = some cs)
    (k : ∀ (b : Nat) (w' : World), Hid (St X w0 w' (x :: .row b e cs :: I)) → wpList Tryd.prog ops Q rest (a.put o.dst (.slice (some ⟨b, 0, none⟩) 1 1)) w') : wpList Tryd.prog ops Q (o :: rest) a w := by
  unfold bsOf at ho
  split at ho
  · next t' n' parts hg hop =>
    simp only [Option.some.injEq, Prod.mk.injEq] at ho
    obtain ⟨rfl, rfl, hy⟩ := ho
    exact Great.wpList_buildSliceTo hg t' e 1 parts hop w.heap.size rfl o.dst rfl hu cs (by rw [Array.toList_map]; exact (congrArg _ hy).trans hb) (k _ _ (Lib.hid (h.alloc cs e)))
  · cases ho
/-- an append: the values and the types -/
def apOf (a : Act) (o : Oper) : Option (List Value × List TypeId) := match o.guard, o.op with
  | none, .call c => match c.callee with
    | .builtin .append => some (c.args.toList.map a.eval, c.argTypes.toList)
    | _ => none
  | _, _ => none
/-- more elements than any list has -/
def nMax : Nat := 16777216
/-- an element's type: as large as its cells, and not too wide -/
structure Elem (e : TypeId) (sz : Nat) : Prop where
  pos : 0 < sz
  info : ∃ z, (Tryd.prog.info? e).map (fun i => (i.zero, i.size, decide (i.bytes ≤ 4096))) = some (some z, sz, true) ∧ z.cells.size = sz
theorem wpl_append {sz : Nat} {xs : List Value} (h : St X w0 w I) (i j : Nat) (ho : apOf a o = some ([v, .slice (some ⟨b, 0, none⟩) 1 1], [t, t])) (hi : I[i]? = some (ownI e sz v n xs)) (hj : I[j]? = some (.row b e cs)) (hu : Tryd.prog.underlying t = some (.slice e))
    (T : Elem e sz) (hcs : cs.size = sz) (h1 : cs.all (·.oneCell') = true) (hn : n < nMax)
    (k : ∀ (v' : Value) (w' : World), Hid (St X w0 w' (I.set i (ownI e sz v' (n + 1) (xs ++ cs.toList)))) → v'.oneCell' = true → wpList Tryd.prog ops Q rest (a.put o.dst v') w') : wpList Tryd.prog ops Q (o :: rest) a w := by
  unfold apOf at ho
  split at ho
  · next c hg hop =>
    split at ho
    · next hcal =>
      simp only [Option.some.injEq, Prod.mk.injEq] at ho
      obtain ⟨hargs, htys⟩ := ho
      obtain ⟨cal, args, tys⟩ := c
      obtain ⟨args⟩ := args
      obtain ⟨tys⟩ := tys
      simp only [] at hcal hargs htys
      subst hcal htys
      obtain ⟨s, args, rfl⟩ : ∃ s r, args = s :: r := by cases args with | nil => simp at hargs | cons s r => exact ⟨s, r, rfl⟩
      obtain ⟨y, args, rfl⟩ : ∃ s r, args = s :: r := by cases args with | nil => simp at hargs | cons s r => exact ⟨s, r, rfl⟩
      obtain rfl : args = [] := by cases args with | nil => rfl | cons s r => simp at hargs
      simp only [List.map_cons, List.map_nil, List.cons.injEq, and_true] at hargs
      obtain ⟨hs, hy⟩ := hargs
      obtain ⟨z, hinf, hz⟩ := T.info
      cases hq : Tryd.prog.info? e with
      | none => simp [hq] at hinf
      | some ie =>
        simp [hq] at hinf
        obtain ⟨hzz, hsz, hby⟩ := hinf
        have hn : n < 16777216 := hn
        obtain ⟨A, B, p1, p2, p3, ⟨hown, hP⟩, p5⟩ := Sep.pick i h.sep hi
        have hrow := h.row j hj
        refine wpList_append_own_at w hg s y t hop 0 e ie z sz ie.bytes hu hq hzz hsz rfl hz T.pos v n xs hs hown ⟨b, 0, none⟩ 1 1 cs.toList hy (by rw [Nat.one_mul, Array.length_toList, hcs]) (fun m u hu => ?_) (fun u hu => (Array.all_eq_true_iff_forall_mem.1 h1) u (by simpa using hu)) (by unfold maxLen; omega) ?_ (Nat.zero_le _) ?_
        · have hadd : (⟨b, 0, none⟩ : Addr).add m = ⟨b, m, none⟩ := by unfold Addr.add; split <;> simp_all
          rw [hadd, cell_of_row w b m _ _ _ hrow]
          simpa using hu
        · have : (n + 1) * ie.bytes ≤ 16777216 * 4096 := Nat.mul_le_mul (by omega) hby
          omega
        · intro v' w' ho' hg' hnil hblk
          have hone : v'.oneCell' = true := by
            rcases ho'.2 with ⟨rfl, _⟩ | ⟨g, cap, cur, rfl, _⟩ <;> rfl
          refine k v' w' (Lib.hid ⟨h.gd, ⟨hg'.os.trans h.rest.os, hg'.tape.trans h.rest.tape, hg'.output.trans h.rest.output, Nat.le_trans h.rest.size hg'.size, fun m hm hx => ?_⟩, ?_⟩) hone
          · rw [hg'.block m (Nat.lt_of_lt_of_le hm h.rest.size) (fun e => ?_)]
            · exact h.rest.block m hm hx
            · have hb := (p1 m (hP m e.symm)).2
              rcases hb with hb | hb
              · exact hx hb
              · omega
          · refine Sep.unpick i hi (Sep.cons (A := fun m => v'.ownBlock = some m) ⟨ho', fun m hm => hm⟩ (p5.loc fun m hm => hg'.block m (p2 m hm).1 fun e => p3 m (hP m e.symm) hm) ?_ ?_ ?_)
            · intro m hm
              rcases hblk with hb | hb
              · have hA := p1 m (hP m (hb.symm.trans hm))
                exact ⟨Nat.lt_of_lt_of_le hA.1 hg'.size, hA.2⟩
              · have hmm : m = w.heap.size := by rw [hb] at hm; cases hm; rfl
                rcases ho'.2 with ⟨rfl, _⟩ | ⟨g, cap, cur, rfl, _, hgh, _⟩
                · cases hm
                · cases hm
                  exact ⟨(Array.getElem?_eq_some_iff.1 hgh).1, Or.inr (by rw [hmm]; exact h.rest.size)⟩
            · exact fun m hm => ⟨Nat.lt_of_lt_of_le (p2 m hm).1 hg'.size, (p2 m hm).2⟩
            · intro m hm hB
              rcases hblk with hb | hb
              · exact p3 m (hP m (hb.symm.trans hm)) hB
              · have hmm : m = w.heap.size := by rw [hb] at hm; cases hm; rfl
                have := (p2 m hB).1
                omega
    · cases ho
  · cases ho
end
end Go.Proofs.YtbnhegipdfkdgaaDoor
