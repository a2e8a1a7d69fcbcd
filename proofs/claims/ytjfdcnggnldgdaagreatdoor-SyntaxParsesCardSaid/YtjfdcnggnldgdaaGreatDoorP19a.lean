/-
Trees of expressions in the heap; slices of them, being made and made.
What list makes of so many expressions in parentheses.
-/
import Derived.Great.Walk
import Derived.Maps.AppendAt
import Derived.Test.YtjfdcnggnldgdaaGreatDoorP17a
import Derived.Test.YtjfdcnggnldgdaaGreatDoorP07a
section
namespace Go.Proofs.YtjfdcnggnldgdaaGreatDoor
open Go.ChangeShapes Go.WideShapes Go.ChangeAt Go.RowKit
set_option linter.unusedVariables false
set_option linter.unusedSimpArgs false

/-- a slice's own row, on some blocks -/
def OwnP (w : World) (P : Nat → Prop) (t : TypeId) (sz : Nat) (v : Value) (n : Nat) (xs : List Value) : Prop := w.ownsRow 0 t sz v n xs ∧ ∀ g, v.ownBlock = some g → P g
theorem OwnP.mono {w w' : World} {P P' : Nat → Prop} {t : TypeId} {sz n : Nat} {v : Value} {xs : List Value} (h : OwnP w P t sz v n xs) (e : ∀ k, P k → w'.heap[k]? = w.heap[k]?) (f : ∀ k, P k → P' k) : OwnP w' P' t sz v n xs := by
  obtain ⟨⟨h1, h2⟩, h3⟩ := h
  refine ⟨⟨h1, h2.imp id ?_⟩, fun g hg => f g (h3 g hg)⟩
  rintro ⟨g, cap, cur, rfl, h4, h5, h6⟩
  exact ⟨g, cap, cur, rfl, h4, by rw [e g (h3 g rfl)]; exact h5, h6⟩
theorem OwnP.one {w : World} {P : Nat → Prop} {t : TypeId} {sz n : Nat} {v : Value} {xs : List Value} (h : OwnP w P t sz v n xs) : v.oneCell' = true := by
  rcases h.1.2 with ⟨rfl, _⟩ | ⟨g, cap, cur, rfl, _⟩ <;> rfl
mutual
/-- cells that are an expression -/
def exOn (w : World) (P : Nat → Prop) : Sx.E → List Value → Prop
  | .mk k p n nm es, cs => ∃ v xs, cs = [.int .i64 k, .int .i64 p, .int .i64 n, .string (Lx.S nm), v] ∧ OwnP w P 55 5 v es.length xs ∧ elOn w P es xs
/-- cells that are expressions, one behind the other -/
def elOn (w : World) (P : Nat → Prop) : List Sx.E → List Value → Prop
  | [], xs => xs = []
  | e :: es, xs => ∃ c r, xs = c ++ r ∧ exOn w P e c ∧ elOn w P es r
end
mutual
theorem exOn_mono {w w' : World} {P P' : Nat → Prop} (e : ∀ k, P k → w'.heap[k]? = w.heap[k]?) (f : ∀ k, P k → P' k) : ∀ (x : Sx.E) (cs : List Value), exOn w P x cs → exOn w' P' x cs
  | .mk k p n nm es, cs, h => by
    rw [exOn] at h ⊢
    obtain ⟨v, xs, h1, h2, h3⟩ := h
    exact ⟨v, xs, h1, h2.mono e f, elOn_mono e f es xs h3⟩
theorem elOn_mono {w w' : World} {P P' : Nat → Prop} (e : ∀ k, P k → w'.heap[k]? = w.heap[k]?) (f : ∀ k, P k → P' k) : ∀ (l : List Sx.E) (xs : List Value), elOn w P l xs → elOn w' P' l xs
  | [], xs, h => by rw [elOn] at h ⊢; exact h
  | x :: es, xs, h => by
    rw [elOn] at h ⊢
    obtain ⟨c, r, h1, h2, h3⟩ := h
    exact ⟨c, r, h1, exOn_mono e f x c h2, elOn_mono e f es r h3⟩
end
theorem exOn_len {w : World} {P : Nat → Prop} : ∀ (x : Sx.E) (cs : List Value), exOn w P x cs → cs.length = 5
  | .mk k p n nm es, cs, h => by
    rw [exOn] at h
    obtain ⟨v, xs, rfl, _⟩ := h
    rfl
theorem elOn_app {w : World} {P : Nat → Prop} : ∀ (l l' : List Sx.E) (xs ys : List Value), elOn w P l xs → elOn w P l' ys → elOn w P (l ++ l') (xs ++ ys)
  | [], l', xs, ys, h, h' => by rw [elOn] at h; subst h; exact h'
  | x :: es, l', xs, ys, h, h' => by
    rw [elOn] at h
    obtain ⟨c, r, rfl, h2, h3⟩ := h
    rw [List.cons_append, elOn]
    exact ⟨c, r ++ ys, by rw [List.append_assoc], h2, elOn_app es l' r ys h3 h'⟩
theorem elOn_one {w : World} {P : Nat → Prop} {x : Sx.E} {c : List Value} (h : exOn w P x c) : elOn w P [x] c := by
  rw [elOn]
  exact ⟨c, [], by rw [List.append_nil], h, by rw [elOn]⟩
/-- a row of its own -/
def ownI (t : TypeId) (sz : Nat) (v : Value) (n : Nat) (xs : List Value) : It := .hp
  { on := fun w P => OwnP w P t sz v n xs
    loc := fun w w' P h e => h.mono e fun _ h => h
    wide := fun w P P' h f => h.mono (fun _ _ => rfl) f }
/-- expressions, as cells -/
def elI (es : List Sx.E) (xs : List Value) : It := .hp
  { on := fun w P => elOn w P es xs
    loc := fun w w' P h e => elOn_mono e (fun _ h => h) es xs h
    wide := fun w P P' h f => elOn_mono (fun _ _ => rfl) f es xs h }
/-- a slice of expressions -/
def lsI (v : Value) (es : List Sx.E) : It := .hp
  { on := fun w P => ∃ xs, Sep w [ownI 55 5 v es.length xs, elI es xs] P
    loc := fun w w' P ⟨xs, h⟩ e => ⟨xs, h.loc e⟩
    wide := fun w P P' ⟨xs, h⟩ f => ⟨xs, h.wide f⟩ }
theorem Sep.join {w : World} {x y z : It} {I : List It} {P : Nat → Prop} (h : Sep w (x :: y :: I) P) (e : ∀ A B : Nat → Prop, x.on w A → y.on w B → z.on w fun k => A k ∨ B k) : Sep w (z :: I) P := by
  obtain ⟨A, B, h1, h2, h3, h4, C, D, h5, h6, h7, h8, h9⟩ := h
  exact ⟨fun k => A k ∨ C k, D, fun k hk => hk.elim (h1 k) fun hc => h2 k (h5 k hc), fun k hk => h2 k (h6 k hk), fun k hk hd => hk.elim (fun ha => h3 k ha (h6 k hd)) fun hc => h7 k hc hd, e A C h4 h8, h9⟩
theorem Sep.split {w : World} {x : It} {I : List It} {P : Nat → Prop} {Q : List It → Prop} (h : Sep w (x :: I) P) (e : ∀ A : Nat → Prop, x.on w A → ∃ K, Q K ∧ Sep w K A) : ∃ K, Q K ∧ Sep w (K ++ I) P := by
  obtain ⟨A, B, h1, h2, h3, h4, h5⟩ := h
  obtain ⟨K, hQ, hK⟩ := e A h4
  exact ⟨K, hQ, Sep.cat hK h5 h1 h2 h3⟩
theorem Sep.map {w : World} {x y : It} {I : List It} {P : Nat → Prop} (h : Sep w (x :: I) P) (e : ∀ A : Nat → Prop, x.on w A → y.on w A) : Sep w (y :: I) P := by
  obtain ⟨A, B, h1, h2, h3, h4, h5⟩ := h
  exact ⟨A, B, h1, h2, h3, e A h4, h5⟩
theorem Sep.emp {w : World} {y : It} {I : List It} {P : Nat → Prop} (h : Sep w I P) (e : y.on w fun _ => False) : Sep w (y :: I) P :=
  ⟨fun _ => False, P, fun _ h => h.elim, fun _ h => h, fun _ h _ => h, e, h⟩
theorem lsI_open {w : World} {I : List It} {P : Nat → Prop} {v : Value} {es : List Sx.E} (h : Sep w (lsI v es :: I) P) : ∃ xs, Sep w (ownI 55 5 v es.length xs :: elI es xs :: I) P := by
  obtain ⟨A, B, h1, h2, h3, ⟨xs, h4⟩, h5⟩ := h
  exact ⟨xs, Sep.cat h4 h5 h1 h2 h3⟩
theorem lsI_close {w : World} {I : List It} {P : Nat → Prop} {v : Value} {es : List Sx.E} {n : Nat} {xs : List Value} (hn : n = es.length) (h : Sep w (ownI 55 5 v n xs :: elI es xs :: I) P) : Sep w (lsI v es :: I) P := by
  subst hn
  obtain ⟨A, B, h1, h2, h3, h4, h5⟩ := Sep.parts (I := [ownI 55 5 v es.length xs, elI es xs]) (J := I) h
  exact ⟨A, B, h1, h2, h3, ⟨xs, h4⟩, h5⟩
/-- an expression's tree, out of its arguments -/
theorem exOn_of {w : World} {P : Nat → Prop} {k p n : Int} {nm : List UInt8} {v : Value} {es : List Sx.E} (h : (lsI v es).on w P) : exOn w P (.mk k p n nm es) [.int .i64 k, .int .i64 p, .int .i64 n, .string (Lx.S nm), v] := by
  obtain ⟨xs, A, B, h1, h2, h3, h4, C, D, h5, h6, h7, h8, h9⟩ := h
  rw [exOn]
  exact ⟨v, xs, rfl, OwnP.mono h4 (fun _ _ => rfl) h1, elOn_mono (fun _ _ => rfl) (fun k hk => h2 k (h5 k hk)) es xs h8⟩
/-- the empty slice -/
theorem lsI_nil {w : World} {I : List It} {P : Nat → Prop} (h : Sep w I P) : Sep w (lsI (.slice none 0 0) [] :: I) P :=
  lsI_close rfl (Sep.emp (Sep.emp h (show elOn w (fun _ => False) [] [] by rw [elOn])) ⟨World.ownsRow_nil _ _ _ _, fun g hg => by cases hg⟩)
/-- one expression in a block of its own -/
theorem lsI_one {w : World} {I : List It} {P : Nat → Prop} {b : Nat} {k p n : Int} {nm : List UInt8} {v : Value} {es : List Sx.E}
    (h : Sep w (.row b 55 #[.int .i64 k, .int .i64 p, .int .i64 n, .string (Lx.S nm), v] :: lsI v es :: I) P) : Sep w (lsI (.slice (some ⟨b, 0, none⟩) 1 1) [.mk k p n nm es] :: I) P := by
  refine lsI_close (n := 1) (xs := [.int .i64 k, .int .i64 p, .int .i64 n, .string (Lx.S nm), v]) rfl ((h.map ?_).under fun P h => h.map ?_)
  · rintro A ⟨h1, h2⟩
    exact ⟨⟨rfl, Or.inr ⟨b, 1, _, rfl, Nat.zero_le _, h2, Nat.le_refl _, by decide, rfl, rfl⟩⟩, fun g hg => by cases hg; exact h1⟩
  · exact fun A hA => elOn_one (exOn_of hA)
/-- one expression more among the elements -/
theorem elI_more {w : World} {I : List It} {P : Nat → Prop} {k p n : Int} {nm : List UInt8} {v : Value} {es l : List Sx.E} {xs : List Value}
    (h : Sep w (elI l xs :: lsI v es :: I) P) : Sep w (elI (l ++ [.mk k p n nm es]) (xs ++ [.int .i64 k, .int .i64 p, .int .i64 n, .string (Lx.S nm), v]) :: I) P :=
  h.join fun A B ha hb => elOn_app _ _ _ _ (elOn_mono (fun _ _ => rfl) (fun _ => Or.inl) l xs ha) (elOn_one (exOn_mono (fun _ _ => rfl) (fun _ => Or.inr) _ _ (exOn_of hb)))
section
variable {ops : Array Oper} {rest : List Oper} {o : Oper} {a : Act} {w w0 : World} {X : Nat → Prop} {x : It} {I : List It} {Q : Exit → Act → World → Prop} {b n k i : Nat} {t e : TypeId} {cs : Array Value} {v : Value}
/-- a slice literal: the type, how many elements, and which -/
def bsOf (a : Act) (o : Oper) : Option (TypeId × Nat × List (Nat × Value)) := match o.guard, o.op with | none, .buildSlice t n parts => some (t, n, parts.toList.map fun p => (p.1, a.eval p.2)) | _, _ => none
theorem wpl_slice (h : St X w0 w (x :: I)) (ho : bsOf a o = some (t, 1, [(0, .agg cs)])) (hu : Tryz.prog.underlying t = some (.slice e)) (hb : Tryz.prog.builtSlice e 1 [(0, .agg cs)] = some cs)
    (k : ∀ (b : Nat) (w' : World), Hid (St X w0 w' (x :: .row b e cs :: I)) → wpList Tryz.prog ops Q rest (a.put o.dst (.slice (some ⟨b, 0, none⟩) 1 1)) w') : wpList Tryz.prog ops Q (o :: rest) a w := by
  unfold bsOf at ho
  split at ho
  · next t' n' parts hg hop =>
    simp only [Option.some.injEq, Prod.mk.injEq] at ho
    obtain ⟨rfl, rfl, hy⟩ := ho
    exact Great.wpList_buildSliceTo hg t' e 1 parts hop w.heap.size rfl o.dst rfl hu cs (by rw [Array.toList_map]; exact (congrArg _ hy).trans hb) (k _ _ (Lib.hid (h.alloc cs e)))
  · cases ho
/-- an append: the values and the types -/
def apOf (a : Act) (o : Oper) : Option (List Value × List TypeId) := match o.guard, o.op with
  | none, .call c => match c.callee with
    | .builtin .append => some (c.args.toList.map a.eval, c.argTypes.toList)
    | _ => none
  | _, _ => none
/-- more elements than any list has -/
def nMax : Nat := 16777216
/-- an element's type: as large as its cells, and not too wide -/
structure Elem (e : TypeId) (sz : Nat) : Prop where
  pos : 0 < sz
  info : ∃ z, (Tryz.prog.info? e).map (fun i => (i.zero, i.size, decide (i.bytes ≤ 4096))) = some (some z, sz, true) ∧ z.cells.size = sz
theorem wpl_append {sz : Nat} {xs : List Value} (h : St X w0 w I) (i j : Nat) (ho : apOf a o = some ([v, .slice (some ⟨b, 0, none⟩) 1 1], [t, t])) (hi : I[i]? = some (ownI e sz v n xs)) (hj : I[j]? = some (.row b e cs)) (hu : Tryz.prog.underlying t = some (.slice e))
    (T : Elem e sz) (hcs : cs.size = sz) (h1 : cs.all (·.oneCell') = true) (hn : n < nMax)
    (k : ∀ (v' : Value) (w' : World), Hid (St X w0 w' (I.set i (ownI e sz v' (n + 1) (xs ++ cs.toList)))) → v'.oneCell' = true → wpList Tryz.prog ops Q rest (a.put o.dst v') w') : wpList Tryz.prog ops Q (o :: rest) a w := by
  unfold apOf at ho
  split at ho
  · next c hg hop =>
    split at ho
    · next hcal =>
      simp only [Option.some.injEq, Prod.mk.injEq] at ho
      obtain ⟨hargs, htys⟩ := ho
      obtain ⟨cal, args, tys⟩ := c
      obtain ⟨args⟩ := args
      obtain ⟨tys⟩ := tys
      simp only [] at hcal hargs htys
      subst hcal htys
      obtain ⟨s, args, rfl⟩ : ∃ s r, args = s :: r := by cases args with | nil => simp at hargs | cons s r => exact ⟨s, r, rfl⟩
      obtain ⟨y, args, rfl⟩ : ∃ s r, args = s :: r := by cases args with | nil => simp at hargs | cons s r => exact ⟨s, r, rfl⟩
      obtain rfl : args = [] := by cases args with | nil => rfl | cons s r => simp at hargs
      simp only [List.map_cons, List.map_nil, List.cons.injEq, and_true] at hargs
      obtain ⟨hs, hy⟩ := hargs
      obtain ⟨z, hinf, hz⟩ := T.info
      cases hq : Tryz.prog.info? e with
      | none => simp [hq] at hinf
      | some ie =>
        simp [hq] at hinf
        obtain ⟨hzz, hsz, hby⟩ := hinf
        have hn : n < 16777216 := hn
        obtain ⟨A, B, p1, p2, p3, ⟨hown, hP⟩, p5⟩ := Sep.pick i h.sep hi
        have hrow := h.row j hj
        refine wpList_append_own_at w hg s y t hop 0 e ie z sz ie.bytes hu hq hzz hsz rfl hz T.pos v n xs hs hown ⟨b, 0, none⟩ 1 1 cs.toList hy (by rw [Nat.one_mul, Array.length_toList, hcs]) (fun m u hu => ?_) (fun u hu => (Array.all_eq_true_iff_forall_mem.1 h1) u (by simpa using hu)) (by unfold maxLen; omega) ?_ (Nat.zero_le _) ?_
        · have hadd : (⟨b, 0, none⟩ : Addr).add m = ⟨b, m, none⟩ := by unfold Addr.add; split <;> simp_all
          rw [hadd, cell_of_row w b m _ _ _ hrow]
          simpa using hu
        · have : (n + 1) * ie.bytes ≤ 16777216 * 4096 := Nat.mul_le_mul (by omega) hby
          omega
        · intro v' w' ho' hg' hnil hblk
          have hone : v'.oneCell' = true := by
            rcases ho'.2 with ⟨rfl, _⟩ | ⟨g, cap, cur, rfl, _⟩ <;> rfl
          refine k v' w' (Lib.hid ⟨h.gd, ⟨hg'.os.trans h.rest.os, hg'.tape.trans h.rest.tape, hg'.output.trans h.rest.output, Nat.le_trans h.rest.size hg'.size, fun m hm hx => ?_⟩, ?_⟩) hone
          · rw [hg'.block m (Nat.lt_of_lt_of_le hm h.rest.size) (fun e => ?_)]
            · exact h.rest.block m hm hx
            · have hb := (p1 m (hP m e.symm)).2
              rcases hb with hb | hb
              · exact hx hb
              · omega
          · refine Sep.unpick i hi (Sep.cons (A := fun m => v'.ownBlock = some m) ⟨ho', fun m hm => hm⟩ (p5.loc fun m hm => hg'.block m (p2 m hm).1 fun e => p3 m (hP m e.symm) hm) ?_ ?_ ?_)
            · intro m hm
              rcases hblk with hb | hb
              · have hA := p1 m (hP m (hb.symm.trans hm))
                exact ⟨Nat.lt_of_lt_of_le hA.1 hg'.size, hA.2⟩
              · have hmm : m = w.heap.size := by rw [hb] at hm; cases hm; rfl
                rcases ho'.2 with ⟨rfl, _⟩ | ⟨g, cap, cur, rfl, _, hgh, _⟩
                · cases hm
                · cases hm
                  exact ⟨(Array.getElem?_eq_some_iff.1 hgh).1, Or.inr (by rw [hmm]; exact h.rest.size)⟩
            · exact fun m hm => ⟨Nat.lt_of_lt_of_le (p2 m hm).1 hg'.size, (p2 m hm).2⟩
            · intro m hm hB
              rcases hblk with hb | hb
              · exact p3 m (hP m (hb.symm.trans hm)) hB
              · have hmm : m = w.heap.size := by rw [hb] at hm; cases hm; rfl
                have := (p2 m hB).1
                omega
    · cases ho
  · cases ho
end
end Go.Proofs.YtjfdcnggnldgdaaGreatDoor
end
section
namespace Go.Proofs.YtjfdcnggnldgdaaGreatDoor
open Go.ChangeShapes Go.WideShapes Go.ChangeAt Go.RowKit
set_option linter.unusedVariables false
set_option linter.unusedSimpArgs false

/-- what a reader of an expression hands back: the expression is right where no error is -/
def EP (b : Nat) (L : List Lx.Tok) (r : Sx.E × Sx.R) (e : Ending) (J : List It) : Prop :=
  ∃ (k p n : Int) (nm : List UInt8) (v : Value) (es : List Sx.E), e = .returned (.agg #[.int .i64 k, .int .i64 p, .int .i64 n, .string (Lx.S nm), v]) ∧ J = [rd b L r.2, lsI v es] ∧ (r.2.err = 0 → r.1 = .mk k p n nm es) ∧ v.oneCell' = true
theorem Sx.nest_err {L : List Lx.Tok} (hL : Sx.Ok L) {s : List UInt8} (hs : s ≠ []) {σ : Sx.R} (h : (Sx.nest L s σ).err = 0) : σ.err = 0 := by
  apply Classical.byContradiction
  intro he
  exact he (((Sx.le_nest hL.ends s hs σ).2.1 he).1.symm.trans h)
def CE (b : Nat) (L : List Lx.Tok) (σ : Sx.R) : Prop := Fn 243 #[.pointer (some ⟨b, 0, none⟩)] [rd b L σ] (EP b L (Sx.X L 0 σ))
abbrev exA (k p n : Int) (nm : List UInt8) (v : Value) : Array Value := #[.int .i64 k, .int .i64 p, .int .i64 n, .string (Lx.S nm), v]
theorem exB (k p n : Int) (nm : List UInt8) (v : Value) : Tryz.prog.builtSlice 55 1 [(0, .agg (exA k p n nm v))] = some (exA k p n nm v) := by kernel_rfl
theorem elI_nil (w : World) (P : Nat → Prop) : (elI [] []).on w P := by show elOn w P [] []; rw [elOn]
theorem exEl : Elem 55 5 := ⟨by decide, ⟨.agg #[.int .i64 0, .int .i64 0, .int .i64 0, .string ⟨#[]⟩, .slice none 0 0], by kernel_rfl, rfl⟩⟩
theorem exT : StructT 55 5 := ⟨⟨_, Tryz.underlying55⟩, by kernel_rfl⟩
theorem exZ : Zero 55 #[.int .i64 0, .int .i64 0, .int .i64 0, .string ⟨#[]⟩, .slice none 0 0] := by unfold Zero; kernel_rfl
theorem exOne {k p n : Int} {s : ByteArray} {v : Value} (h : v.oneCell' = true) : (#[.int .i64 k, .int .i64 p, .int .i64 n, .string s, v] : Array Value).all (·.oneCell') = true := by simp [Value.oneCell'] at h ⊢; exact h
theorem fitsX {k p n : Int} {s : ByteArray} {v : Value} (h : v.oneCell' = true) : Fits 5 #[.int .i64 k, .int .i64 p, .int .i64 n, .string s, v] := ⟨rfl, exOne h⟩
/-- a slice's length -/
def lenOf (v : Value) : Nat := match v with | .slice _ n _ => n | _ => 0
theorem own_len {w : World} {P : Nat → Prop} {t : TypeId} {sz n : Nat} {v : Value} {xs : List Value} (h : OwnP w P t sz v n xs) : ∃ q cap, v = .slice q n cap := by
  rcases h.1.2 with ⟨rfl, rfl⟩ | ⟨g, cap, cur, rfl, _⟩
  · exact ⟨none, 0, rfl⟩
  · exact ⟨_, _, rfl⟩
theorem St.ownLen {X : Nat → Prop} {w0 w : World} {I : List It} (h : St X w0 w I) (i : Nat) {t : TypeId} {sz n : Nat} {v : Value} {xs : List Value} (hi : I[i]? = some (ownI t sz v n xs)) : ∃ q cap, v = .slice q n cap := by
  obtain ⟨A, B, h1, h2, h3, h4, h5⟩ := Sep.pick i h.sep hi
  exact own_len h4
/-- behind an append: the element is among the others -/
theorem St.pushE {X : Nat → Prop} {w0 w : World} {x : It} {I : List It} {b3 m : Nat} {k p n : Int} {nm : List UInt8} {v2 v' : Value} {es2 es : List Sx.E} {xs : List Value}
    (h : St X w0 w (x :: .row b3 55 (exA k p n nm v2) :: lsI v2 es2 :: ownI 55 5 v' m (xs ++ (exA k p n nm v2).toList) :: elI es xs :: I)) :
    St X w0 w (x :: ownI 55 5 v' m (xs ++ (exA k p n nm v2).toList) :: elI (es ++ [.mk k p n nm es2]) (xs ++ (exA k p n nm v2).toList) :: I) :=
  h.to fun P h => h.under fun P h => ((h.drop.swap).under fun P h => elI_more h.swap)
theorem St.opn0 {X : Nat → Prop} {w0 w : World} {b : Nat} {L : List Lx.Tok} {σ : Sx.R} {I : List It} (h : St X w0 w (rd b L σ :: I)) : σ.err = 0 → 0 ≤ σ.opn := by
  obtain ⟨a, cap, c, m, e, p, hr, _⟩ := h.rdOpen
  intro he
  have := hr.hm he
  omega
theorem Sx.unnest_err {L : List Lx.Tok} {s : List UInt8} {σ : Sx.R} (h : (Sx.unnest L s σ).err = 0) : σ.err = 0 := (Sx.unnest_ok h).1
set_option maxHeartbeats 8000000 in
set_option maxRecDepth 100000 in
theorem list_many (b : Nat) (L : List Lx.Tok) (hL : Sx.Ok L) (σ : Sx.R) (n : Nat) (hn : n ≤ 3) (hE : ∀ τ, Sx.M L τ ≤ Sx.M L σ → CE b L τ) :
    Fn 261 #[.pointer (some ⟨b, 0, none⟩), .int .i64 (n : Int), .int .i64 (n : Int), .func (.func 243) #[.pointer (some ⟨b, 0, none⟩)] #[]] [rd b L σ]
    fun e J => ∃ v es, e = .returned v ∧ J = [rd b L (Sx.unnest L [41] (Sx.Mn L n true (Sx.nest L [40] σ)).2), lsI v es] ∧ ((Sx.unnest L [41] (Sx.Mn L n true (Sx.nest L [40] σ)).2).err = 0 → (Sx.Mn L n true (Sx.nest L [40] σ)).1 = es) ∧ v.oneCell' = true := by
  intro w P hP h0
  have HS := Lib.hid (St.start hP h0)
  have C1 := Lib.hid (open_fn b L hL σ [40] (by decide))
  have hMn := Sx.M_le (Sx.le_nest hL.ends [40] (by decide) σ)
  have hop : (Sx.nest L [40] σ).opn = σ.opn + 1 := Sx.op_nest L [40] σ
  have ho0 := HS.out.opn0
  have herr0 : (Sx.nest L [40] σ).err = 0 → σ.err = 0 := fun h => Sx.nest_err hL (by decide) h
  generalize Sx.nest L [40] σ = σ1 at C1 hMn hop herr0 ⊢
  have HG := Lib.hid (And.intro hMn (And.intro hop (And.intro ho0 herr0)))
  have HL := Lib.hid hL
  have HE := Lib.hid hE
  clear h0 hP hL hE hMn hop ho0 herr0
  go_enter Tryz.func261, Tryz.ntmps261
  go_wp2_with (first
    | (go_at_call 179; refine (HS.out.call1 C1.out).mono ?_; rintro e w1 ⟨J, ⟨rfl, rfl⟩, hs⟩; simp only [List.cons_append, List.nil_append] at hs; have HS1 := Lib.hid hs; clear hs))
  go_loopw [9] (fun v wr => ∃ (k : Nat) (es : List Sx.E) (xs : List Value) (τ : Sx.R), k ≤ n ∧ lenOf v = k ∧ Hid (es.length = k ∧ St P w wr [rd b L τ, ownI 55 5 v k xs, elI es xs] ∧ τ.opn = σ.opn + 1 ∧ (τ.err = 0 → σ.err = 0) ∧ Sx.M L τ ≤ Sx.M L σ ∧ (Sx.Mn L n true σ1).2 = (Sx.Mn L (n - k) (decide (k = 0)) τ).2 ∧ (τ.err = 0 → (Sx.Mn L n true σ1).1 = es ++ (Sx.Mn L (n - k) (decide (k = 0)) τ).1))) (fun v _ => n - lenOf v)
  case atStart =>
    refine ⟨0, [], [], σ1, Nat.zero_le _, rfl, Lib.hid ⟨rfl, HS1.out.to fun P h => h.under fun P h => ?_, HG.out.2.1, HG.out.2.2.2, HG.out.1, rfl, fun _ => rfl⟩⟩
    exact Sep.emp (Sep.emp h (elI_nil _ _)) ⟨World.ownsRow_nil _ _ _ _, fun g hg => by cases hg⟩
  case round =>
    obtain ⟨k, es, xs, τ, hk, hlen, HK⟩ := hrel
    obtain ⟨q, cap, rfl⟩ := HK.out.2.1.ownLen 1 rfl
    have HST := Lib.hid HK.out.2.1
    have HT0 := Lib.hid HK.out.2.2.2.2.1
    have hat := HST.out.at'
    have C2 := Lib.hid (failed_fn b L τ)
    have hT0 := HK.out.2.2
    by_cases he : τ.err = 0 ∧ k < n
    · obtain ⟨he, hkn⟩ := he
      rw [decide_eq_false (p := τ.err ≠ 0) (by simpa using he)] at C2
      have C3 := Lib.hid (want_fn b L HL.out τ [44] (by decide))
      have hle : Sx.Le L τ (if decide (k = 0) = true then τ else Sx.eat L [44] τ) := by
        split
        · exact Sx.Le.refl _ _
        · exact Sx.le_eat HL.out.ends [44] (by decide) τ
      have hopt : (if decide (k = 0) = true then τ else Sx.eat L [44] τ).opn = τ.opn := by
        split
        · rfl
        · exact Sx.op_eat L [44] τ
      have hs1 := Sx.Mn_succ HL.out.ends (n - (k + 1)) (decide (k = 0)) hat (by omega)
      rw [show n - (k + 1) + 1 = n - k by omega] at hs1
      have hkI : (k : Int) < (n : Int) := by omega
      have HN := Lib.hid hs1
      have HLe := Lib.hid hle
      have HOp := Lib.hid hopt
      have HHe := Lib.hid he
      have HKN := Lib.hid hkn
      have hnm : k < nMax := by unfold nMax; omega
      clear hs1 hle hopt he hkn hT0
      by_cases hk0 : k = 0
      · subst hk0
        rw [if_pos (by decide)] at HN HLe HOp
        have CX := Lib.hid (HE.out τ HT0.out)
        have hkz : ¬ (0 : Int) < ((0 : Nat) : Int) := by omega
        go_wp2_with (first
          | (go_at_call 32; refine (HST.out.call1 C2.out).mono ?_; rintro e w2 ⟨J, ⟨rfl, rfl⟩, hs⟩; simp only [List.cons_append, List.nil_append] at hs; have HS2 := Lib.hid hs; clear hs)
          | (go_at_call 243; refine (HS2.out.call1 CX.out).mono ?_; rintro e w4 ⟨J, ⟨k2, p2, n2, nm2, v2, es2, rfl, rfl, hx2, h12⟩, hs⟩; simp only [List.cons_append, List.nil_append] at hs; have HS4 := Lib.hid hs; have HX2 := Lib.hid hx2; clear hs hx2)
          | (refine wpl_slice HS4.out rfl Tryz.underlying51 (exB _ _ _ _ _) ?_; intro b5 w5 HS5)
          | (refine wpl_append HS5.out 3 1 rfl rfl rfl Tryz.underlying51 exEl rfl (exOne h12) hnm ?_; intro v3 w6 hs h13; obtain ⟨q3, cap3, rfl⟩ := hs.out.ownLen 3 rfl; have HS6 := Lib.hid (show St _ _ _ (_ :: _ :: _ :: _ :: _ :: []) from hs.out); clear hs))
        refine ⟨⟨0 + 1, es ++ [.mk k2 p2 n2 nm2 es2], xs ++ (exA k2 p2 n2 nm2 v2).toList, (Sx.X L 0 τ).2, HKN.out, ?_, Lib.hid ⟨?_, HS6.out.pushE, ?_, ?_, ?_, ?_, ?_⟩⟩, ?_⟩
        · rfl
        · rw [List.length_append, HK.out.1]; rfl
        · rw [Sx.op_X]; first | exact HK.out.2.2.1 | (rw [HOp.out]; exact HK.out.2.2.1)
        · exact fun _ => HK.out.2.2.2.1 HHe.out
        · exact Nat.le_trans (Sx.M_le (Sx.le_X HL.out.ends 0 _)) (Nat.le_trans (Sx.M_le HLe.out) HT0.out)
        · rw [HK.out.2.2.2.2.2.1, HN.out]; rfl
        · intro hz
          rw [HK.out.2.2.2.2.2.2 HHe.out, HN.out, List.append_assoc, ← HX2.out hz]; rfl
        · show n - lenOf _ < _
          have := HKN.out
          simp only [lenOf]
          omega
      · have hkz : (0 : Int) < (k : Int) := by omega
        rw [if_neg (by simpa using hk0)] at HN HLe HOp
        have CX := Lib.hid (HE.out (Sx.eat L [44] τ) (Nat.le_trans (Sx.M_le HLe.out) HT0.out))
        go_wp2_with (first
          | (go_at_call 32; refine (HST.out.call1 C2.out).mono ?_; rintro e w2 ⟨J, ⟨rfl, rfl⟩, hs⟩; simp only [List.cons_append, List.nil_append] at hs; have HS2 := Lib.hid hs; clear hs)
          | (go_at_call 117; refine (HS2.out.call1 C3.out).mono ?_; rintro e w3 ⟨J, ⟨rfl, rfl⟩, hs⟩; simp only [List.cons_append, List.nil_append] at hs; have HS3 := Lib.hid hs; clear hs)
          | (go_at_call 243; refine (HS3.out.call1 CX.out).mono ?_; rintro e w4 ⟨J, ⟨k2, p2, n2, nm2, v2, es2, rfl, rfl, hx2, h12⟩, hs⟩; simp only [List.cons_append, List.nil_append] at hs; have HS4 := Lib.hid hs; have HX2 := Lib.hid hx2; clear hs hx2)
          | (refine wpl_slice HS4.out rfl Tryz.underlying51 (exB _ _ _ _ _) ?_; intro b5 w5 HS5)
          | (refine wpl_append HS5.out 3 1 rfl rfl rfl Tryz.underlying51 exEl rfl (exOne h12) hnm ?_; intro v3 w6 hs h13; obtain ⟨q3, cap3, rfl⟩ := hs.out.ownLen 3 rfl; have HS6 := Lib.hid (show St _ _ _ (_ :: _ :: _ :: _ :: _ :: []) from hs.out); clear hs))
        refine ⟨⟨k + 1, es ++ [.mk k2 p2 n2 nm2 es2], xs ++ (exA k2 p2 n2 nm2 v2).toList, (Sx.X L 0 (Sx.eat L [44] τ)).2, HKN.out, ?_, Lib.hid ⟨?_, HS6.out.pushE, ?_, ?_, ?_, ?_, ?_⟩⟩, ?_⟩
        · rfl
        · rw [List.length_append, HK.out.1]; rfl
        · rw [Sx.op_X]; first | exact HK.out.2.2.1 | (rw [HOp.out]; exact HK.out.2.2.1)
        · exact fun _ => HK.out.2.2.2.1 HHe.out
        · exact Nat.le_trans (Sx.M_le (Sx.le_X HL.out.ends 0 _)) (Nat.le_trans (Sx.M_le HLe.out) HT0.out)
        · rw [HK.out.2.2.2.2.2.1, HN.out]; rfl
        · intro hz
          rw [HK.out.2.2.2.2.2.2 HHe.out, HN.out, List.append_assoc, ← HX2.out hz]; rfl
        · show n - lenOf _ < _
          have := HKN.out
          simp only [lenOf]
          omega
    · have hfin : (Sx.Mn L n true σ1).2 = τ := by
        rw [hT0.2.2.2.1]
        by_cases h1 : τ.err = 0
        · have h2 : n - k = 0 := by omega
          rw [h2, Sx.Mn_zero HL.out.ends _ hat]
        · exact Sx.Mn_err HL.out.ends _ _ hat (by omega) h1
      have hval : (Sx.unnest L [41] τ).err = 0 → (Sx.Mn L n true σ1).1 = es := fun h => by
        have h1 := Sx.unnest_err h
        have h2 : n - k = 0 := by omega
        rw [hT0.2.2.2.2 h1, h2, Sx.Mn_zero HL.out.ends _ hat, List.append_nil]
      have C4 := Lib.hid (shut_fn b L HL.out τ [41] (by decide) (fun h => by
        have h1 : τ.err = 0 := Sx.unnest_err (s := [41]) h
        have h2 := HG.out.2.2.1 (hT0.2.1 h1)
        rw [hT0.1]; omega))
      have HF := Lib.hid hfin
      have HV := Lib.hid hval
      have HLN := Lib.hid HK.out.1
      clear hfin hval hat hT0
      by_cases h1 : τ.err = 0
      · rw [decide_eq_false (p := τ.err ≠ 0) (by simpa using h1)] at C2
        have hkI : ¬ (k : Int) < (n : Int) := by omega
        clear HK HE HT0 he h1
        go_wp2_with (first
          | (go_at_call 32; refine (HST.out.call1 C2.out).mono ?_; rintro e w2 ⟨J, ⟨rfl, rfl⟩, hs⟩; simp only [List.cons_append, List.nil_append] at hs; have HS2 := Lib.hid hs; clear hs)
          | (go_at_call 181; refine (HS2.out.call1 C4.out).mono ?_; rintro e w3 ⟨J, ⟨rfl, rfl⟩, hs⟩; simp only [List.cons_append, List.nil_append] at hs; have HS3 := Lib.hid hs; clear hs))
        go_ret
        refine ⟨_, ⟨_, es, rfl, rfl, ?_, rfl⟩, ?_⟩
        · rw [HF.out]; exact HV.out
        · rw [HF.out]; exact HS3.out.to fun P h => h.under fun P h => lsI_close HLN.out.symm h
      · rw [decide_eq_true (p := τ.err ≠ 0) h1] at C2
        clear HK HE HT0 he h1
        go_wp2_with (first
          | (go_at_call 32; refine (HST.out.call1 C2.out).mono ?_; rintro e w2 ⟨J, ⟨rfl, rfl⟩, hs⟩; simp only [List.cons_append, List.nil_append] at hs; have HS2 := Lib.hid hs; clear hs)
          | (go_at_call 181; refine (HS2.out.call1 C4.out).mono ?_; rintro e w3 ⟨J, ⟨rfl, rfl⟩, hs⟩; simp only [List.cons_append, List.nil_append] at hs; have HS3 := Lib.hid hs; clear hs))
        go_ret
        refine ⟨_, ⟨_, es, rfl, rfl, ?_, rfl⟩, ?_⟩
        · rw [HF.out]; exact HV.out
        · rw [HF.out]; exact HS3.out.to fun P h => h.under fun P h => lsI_close HLN.out.symm h
end Go.Proofs.YtjfdcnggnldgdaaGreatDoor
end
