/-
Statements: equations without fuel; their trees in the heap as parts.
A name with its label and type, a parameter; a statement's value; let and var.
-/
import Derived.Test.YtjfdcnggnldgdaaGreatDoorP29b
import Derived.Test.YtjfdcnggnldgdaaGreatDoorP24a
section
namespace Go.Proofs.YtjfdcnggnldgdaaGreatDoor
open Go.ChangeShapes Go.WideShapes Go.ChangeAt Go.RowKit
set_option linter.unusedVariables false
set_option linter.unusedSimpArgs false

def Sx.S.at' (p : Int) : Sx.S → Sx.S
  | .mk k _ m nm ty a b e h => .mk k p m nm ty a b e h
/-- a name with its label and type -/
def Sx.decl (L : List Lx.Tok) (σ : Sx.R) : (Lx.Tok × Sx.Ty) × Sx.R :=
  let l := Sx.label L σ
  let n := Sx.some L 1 l.2
  let t := Sx.type L false l.1 (Sx.eat L [58] n.2)
  ((n.1, t.1), t.2)
/-- an expression and the sign behind it -/
def Sx.vl (L : List Lx.Tok) (σ : Sx.R) : Sx.E × Sx.R := ((Sx.X L 0 σ).1, Sx.eat L [59] (Sx.X L 0 σ).2)
def Sx.lett (L : List Lx.Tok) (σ : Sx.R) : Sx.S × Sx.R :=
  let n := Sx.some L 1 σ
  let v := Sx.vl L (Sx.eat L [61] n.2)
  (.mk 1 0 0 n.1.text Sx.noTy [v.1] [] [] false, v.2)
def Sx.dcl (L : List Lx.Tok) (σ : Sx.R) : Sx.S × Sx.R :=
  let d := Sx.decl L σ
  (.mk 2 0 0 d.1.1.text d.1.2 [] [] [] false, Sx.eat L [59] d.2)
def Sx.brn (L : List Lx.Tok) (σ : Sx.R) : Sx.S × Sx.R :=
  let c := Sx.X L 0 σ
  let b := Sx.Bl L c.2
  if Sx.sees L Sx.wElse b.2 then
    let e := Sx.Bl L { b.2 with at' := b.2.at' + 1 }
    (.mk 5 0 0 [] Sx.noTy [c.1] b.1 e.1 true, e.2)
  else (.mk 5 0 0 [] Sx.noTy [c.1] b.1 [] false, b.2)
def Sx.lop (L : List Lx.Tok) (σ : Sx.R) : Sx.S × Sx.R :=
  let n := Sx.some L 1 σ
  let c := Sx.X L 0 (Sx.eat L [60] n.2)
  let m := Sx.some L 2 (Sx.eat L Sx.wMax c.2)
  let b := Sx.Bl L m.2
  (.mk 6 0 m.1.num n.1.text Sx.noTy [c.1] b.1 [] false, b.2)
def Sx.ret (L : List Lx.Tok) (σ : Sx.R) : Sx.S × Sx.R := (.mk 8 0 0 [] Sx.noTy [(Sx.vl L σ).1] [] [] false, (Sx.vl L σ).2)
theorem Sx.named_at (L : List Lx.Tok) (p : Int) (σ : Sx.R) : Sx.named L p σ = ((Sx.named L 0 σ).1.at' p, (Sx.named L 0 σ).2) := by
  unfold Sx.named
  simp only []
  split
  · rfl
  · split
    · rfl
    · rfl
/-- a statement, by what it begins with -/
def Sx.stm (L : List Lx.Tok) (σ : Sx.R) : Sx.S × Sx.R :=
  let τ : Sx.R := { σ with at' := σ.at' + 1 }
  if Sx.sees L Sx.wLet σ then Sx.lett L τ
  else if Sx.sees L Sx.wVar σ then Sx.dcl L τ
  else if Sx.sees L Sx.wIf σ then Sx.brn L τ
  else if Sx.sees L Sx.wFor σ then Sx.lop L τ
  else if Sx.sees L Sx.wRet σ then Sx.ret L τ
  else Sx.named L 0 σ
section
variable {L : List Lx.Tok} (hL : Sx.Ends L)
include hL
theorem Sx.Bl_eq {σ : Sx.R} (hi : σ.at' < L.length) : Sx.Bl L σ = ((Sx.Ss L (Sx.nest L [123] σ)).1, Sx.unnest L [125] (Sx.Ss L (Sx.nest L [123] σ)).2) := by
  have h := Sx.fuel_M L σ
  unfold Sx.Bl Sx.Ss
  rw [(Sx.enough_stmts hL _).1 (Sx.fuel L + 1) σ hi (by omega) (by omega), Sx.block]
theorem Sx.Ss_stop {σ : Sx.R} (hi : σ.at' < L.length) (h : σ.err ≠ 0 ∨ Sx.sees L [125] σ = true) : Sx.Ss L σ = ([], σ) := by
  have h' := Sx.fuel_M L σ
  unfold Sx.Ss
  rw [(Sx.enough_stmts hL _).2.1 (Sx.fuel L + 1) σ hi (by omega) (by omega), Sx.stmts, if_neg]
  rcases h with h | h
  · simp [h]
  · simp [h]
theorem Sx.Ss_go {σ : Sx.R} (hi : σ.at' < L.length) (he : σ.err = 0) (hs : Sx.sees L [125] σ = false) : Sx.Ss L σ = ((Sx.St L σ).1 :: (Sx.Ss L (Sx.St L σ).2).1, (Sx.Ss L (Sx.St L σ).2).2) := by
  have h' := Sx.fuel_M L σ
  unfold Sx.Ss Sx.St
  rw [(Sx.enough_stmts hL _).2.1 (Sx.fuel L + 1) σ hi (by omega) (by omega), Sx.stmts, if_pos (by simp [he, hs])]
theorem Sx.St_eq {σ : Sx.R} (hi : σ.at' < L.length) (he : σ.err = 0) : Sx.St L σ = ((Sx.stm L σ).1.at' (Sx.tk L σ).pos, (Sx.stm L σ).2) := by
  have h' := Sx.fuel_M L σ
  unfold Sx.St
  rw [(Sx.enough_stmts hL _).2.2 (Sx.fuel L + 1) σ hi he (by omega) (by omega), Sx.stmt]
  unfold Sx.stm
  simp only []
  by_cases h1 : Sx.sees L Sx.wLet σ = true
  · rw [Sx.may_is h1, if_pos rfl, if_pos h1]
    rfl
  rw [Sx.may_no (by simpa using h1), if_neg Bool.false_ne_true, if_neg h1]
  by_cases h2 : Sx.sees L Sx.wVar σ = true
  · rw [Sx.may_is h2, if_pos rfl, if_pos h2]
    rfl
  rw [Sx.may_no (by simpa using h2), if_neg Bool.false_ne_true, if_neg h2]
  by_cases h3 : Sx.sees L Sx.wIf σ = true
  · rw [Sx.may_is h3, if_pos rfl, if_pos h3]
    simp only []
    unfold Sx.brn
    simp only []
    show (if (Sx.may L Sx.wElse (Sx.Bl L (Sx.X L 0 { σ with at' := σ.at' + 1 }).2).2).1 = true then (Sx.S.mk 5 (Sx.tk L σ).pos 0 [] Sx.noTy [(Sx.X L 0 { σ with at' := σ.at' + 1 }).1] (Sx.Bl L (Sx.X L 0 { σ with at' := σ.at' + 1 }).2).1 (Sx.Bl L (Sx.may L Sx.wElse (Sx.Bl L (Sx.X L 0 { σ with at' := σ.at' + 1 }).2).2).2).1 true, (Sx.Bl L (Sx.may L Sx.wElse (Sx.Bl L (Sx.X L 0 { σ with at' := σ.at' + 1 }).2).2).2).2) else (Sx.S.mk 5 (Sx.tk L σ).pos 0 [] Sx.noTy [(Sx.X L 0 { σ with at' := σ.at' + 1 }).1] (Sx.Bl L (Sx.X L 0 { σ with at' := σ.at' + 1 }).2).1 [] false, (Sx.may L Sx.wElse (Sx.Bl L (Sx.X L 0 { σ with at' := σ.at' + 1 }).2).2).2)) = _
    generalize Sx.Bl L (Sx.X L 0 { σ with at' := σ.at' + 1 }).2 = bb
    by_cases h6 : Sx.sees L Sx.wElse bb.2 = true
    · rw [Sx.may_is h6, if_pos rfl, if_pos h6]
      rfl
    · rw [Sx.may_no (by simpa using h6), if_neg Bool.false_ne_true, if_neg h6]
      rfl
  rw [Sx.may_no (by simpa using h3), if_neg Bool.false_ne_true, if_neg h3]
  by_cases h4 : Sx.sees L Sx.wFor σ = true
  · rw [Sx.may_is h4, if_pos rfl, if_pos h4]
    rfl
  rw [Sx.may_no (by simpa using h4), if_neg Bool.false_ne_true, if_neg h4]
  by_cases h5 : Sx.sees L Sx.wRet σ = true
  · rw [Sx.may_is h5, if_pos rfl, if_pos h5]
    rfl
  rw [Sx.may_no (by simpa using h5), if_neg Bool.false_ne_true, if_neg h5]
  exact Sx.named_at L _ σ
theorem Sx.M_St {σ : Sx.R} (hi : σ.at' < L.length) (he : σ.err = 0) : Sx.M L (Sx.St L σ).2 + 16 ≤ Sx.M L σ := by
  have h : Sx.fuel L = 16 * L.length + 15 + 1 := rfl
  unfold Sx.St
  rw [h]
  exact Sx.M_stmt hL he hi
theorem Sx.St_at {σ : Sx.R} (hi : σ.at' < L.length) (he : σ.err = 0) (h : (Sx.St L σ).2.err = 0) : σ.at' + 1 ≤ (Sx.St L σ).2.at' := by
  have h1 := Sx.M_St hL hi he
  have h2 := (Sx.le_stmts hL (Sx.fuel L)).2.2 σ
  have h3 : (Sx.St L σ).2.at' < L.length := h2.2.2.1 hi
  unfold Sx.M at h1
  rw [if_neg (by simpa using h), if_neg (by simpa using he)] at h1
  omega
end
abbrev stA (k p m : Int) (nm : List UInt8) (e l b : Int) (va vb ve : Value) (h : Bool) : Array Value := #[.int .i64 k, .int .i64 p, .int .i64 m, .string (Lx.S nm), .int .i64 e, .int .i64 l, .int .i64 b, va, vb, ve, .bool h]
mutual
/-- cells that are a statement -/
def stOn (w : World) (P : Nat → Prop) : Sx.S → List Value → Prop
  | .mk k p m nm ty es bs cs h, xs => ∃ va vb ve xa xb xe, xs = (stA k p m nm ty.elem ty.len ty.label va vb ve h).toList ∧ (OwnP w P 55 5 va es.length xa ∧ elOn w P es xa) ∧ (OwnP w P 53 11 vb bs.length xb ∧ slOn w P bs xb) ∧ (OwnP w P 53 11 ve cs.length xe ∧ slOn w P cs xe)
/-- cells that are statements, one behind the other -/
def slOn (w : World) (P : Nat → Prop) : List Sx.S → List Value → Prop
  | [], xs => xs = []
  | s :: ss, xs => ∃ c r, xs = c ++ r ∧ stOn w P s c ∧ slOn w P ss r
end
mutual
theorem stOn_mono {w w' : World} {P P' : Nat → Prop} (e : ∀ k, P k → w'.heap[k]? = w.heap[k]?) (f : ∀ k, P k → P' k) : ∀ (x : Sx.S) (cs : List Value), stOn w P x cs → stOn w' P' x cs
  | .mk k p m nm ty es bs cs h, xs, hx => by
    rw [stOn] at hx ⊢
    obtain ⟨va, vb, ve, xa, xb, xe, h1, ⟨h2, h3⟩, ⟨h4, h5⟩, ⟨h6, h7⟩⟩ := hx
    exact ⟨va, vb, ve, xa, xb, xe, h1, ⟨h2.mono e f, elOn_mono e f es xa h3⟩, ⟨h4.mono e f, slOn_mono e f bs xb h5⟩, ⟨h6.mono e f, slOn_mono e f cs xe h7⟩⟩
theorem slOn_mono {w w' : World} {P P' : Nat → Prop} (e : ∀ k, P k → w'.heap[k]? = w.heap[k]?) (f : ∀ k, P k → P' k) : ∀ (l : List Sx.S) (xs : List Value), slOn w P l xs → slOn w' P' l xs
  | [], xs, h => by rw [slOn] at h ⊢; exact h
  | x :: ss, xs, h => by
    rw [slOn] at h ⊢
    obtain ⟨c, r, h1, h2, h3⟩ := h
    exact ⟨c, r, h1, stOn_mono e f x c h2, slOn_mono e f ss r h3⟩
end
theorem slOn_app {w : World} {P : Nat → Prop} : ∀ (l l' : List Sx.S) (xs ys : List Value), slOn w P l xs → slOn w P l' ys → slOn w P (l ++ l') (xs ++ ys)
  | [], l', xs, ys, h, h' => by rw [slOn] at h; subst h; exact h'
  | x :: ss, l', xs, ys, h, h' => by
    rw [slOn] at h
    obtain ⟨c, r, rfl, h2, h3⟩ := h
    rw [List.cons_append, slOn]
    exact ⟨c, r ++ ys, by rw [List.append_assoc], h2, slOn_app ss l' r ys h3 h'⟩
theorem slOn_one {w : World} {P : Nat → Prop} {x : Sx.S} {c : List Value} (h : stOn w P x c) : slOn w P [x] c := by
  rw [slOn]
  exact ⟨c, [], by rw [List.append_nil], h, by rw [slOn]⟩
/-- statements, as cells -/
def slI (ss : List Sx.S) (xs : List Value) : It := .hp
  { on := fun w P => slOn w P ss xs
    loc := fun w w' P h e => slOn_mono e (fun _ h => h) ss xs h
    wide := fun w P P' h f => slOn_mono (fun _ _ => rfl) f ss xs h }
/-- a slice of statements -/
def ssI (v : Value) (ss : List Sx.S) : It := .hp
  { on := fun w P => ∃ xs, Sep w [ownI 53 11 v ss.length xs, slI ss xs] P
    loc := fun w w' P ⟨xs, h⟩ e => ⟨xs, h.loc e⟩
    wide := fun w P P' ⟨xs, h⟩ f => ⟨xs, h.wide f⟩ }
theorem ssI_close {w : World} {I : List It} {P : Nat → Prop} {v : Value} {ss : List Sx.S} {n : Nat} {xs : List Value} (hn : n = ss.length) (h : Sep w (ownI 53 11 v n xs :: slI ss xs :: I) P) : Sep w (ssI v ss :: I) P := by
  subst hn
  obtain ⟨A, B, h1, h2, h3, h4, h5⟩ := Sep.parts (I := [ownI 53 11 v ss.length xs, slI ss xs]) (J := I) h
  exact ⟨A, B, h1, h2, h3, ⟨xs, h4⟩, h5⟩
theorem slI_nil (w : World) (P : Nat → Prop) : (slI [] []).on w P := by show slOn w P [] []; rw [slOn]
theorem ssI_nil {w : World} {I : List It} {P : Nat → Prop} (h : Sep w I P) : Sep w (ssI (.slice none 0 0) [] :: I) P :=
  ssI_close rfl (Sep.emp (Sep.emp h (slI_nil w _)) ⟨World.ownsRow_nil _ _ _ _, fun g hg => by cases hg⟩)
/-- a statement's tree, out of its parts -/
theorem stOn_of {w : World} {P : Nat → Prop} {k p m e l b : Int} {nm : List UInt8} {va vb ve : Value} {es : List Sx.E} {bs cs : List Sx.S} {h : Bool} (hs : Sep w [lsI va es, ssI vb bs, ssI ve cs] P) : stOn w P (.mk k p m nm ⟨e, l, b⟩ es bs cs h) (stA k p m nm e l b va vb ve h).toList := by
  obtain ⟨xa, hs⟩ := lsI_open hs
  obtain ⟨A, B, h1, h2, h3, h4, C, D, h5, h6, h7, h8, E, F, g1, g2, g3, ⟨xb, hb⟩, G, H, g4, g5, g6, ⟨xe, he⟩, _⟩ := hs
  obtain ⟨A1, B1, a1, a2, a3, a4, C1, D1, a5, a6, a7, a8, a9⟩ := hb
  obtain ⟨A2, B2, c1, c2, c3, c4, C2, D2, c5, c6, c7, c8, c9⟩ := he
  rw [stOn]
  refine ⟨va, vb, ve, xa, xb, xe, rfl, ⟨OwnP.mono h4 (fun _ _ => rfl) h1, elOn_mono (fun _ _ => rfl) (fun k hk => h2 k (h5 k hk)) es xa h8⟩, ⟨OwnP.mono a4 (fun _ _ => rfl) (fun k hk => h2 k (h6 k (g1 k (a1 k hk)))), slOn_mono (fun _ _ => rfl) (fun k hk => h2 k (h6 k (g1 k (a2 k (a5 k hk))))) bs xb a8⟩, ⟨OwnP.mono c4 (fun _ _ => rfl) (fun k hk => h2 k (h6 k (g2 k (g4 k (c1 k hk))))), slOn_mono (fun _ _ => rfl) (fun k hk => h2 k (h6 k (g2 k (g4 k (c2 k (c5 k hk)))))) cs xe c8⟩⟩
/-- one statement more among the elements -/
theorem slI_more {w : World} {I : List It} {P : Nat → Prop} {k p m e l b : Int} {nm : List UInt8} {va vb ve : Value} {es : List Sx.E} {bs cs ss : List Sx.S} {h : Bool} {xs : List Value}
    (hs : Sep w (slI ss xs :: lsI va es :: ssI vb bs :: ssI ve cs :: I) P) : Sep w (slI (ss ++ [.mk k p m nm ⟨e, l, b⟩ es bs cs h]) (xs ++ (stA k p m nm e l b va vb ve h).toList) :: I) P := by
  obtain ⟨A, B, h1, h2, h3, h4, h5⟩ := hs
  obtain ⟨C, D, h6, h7, h8, h9, h10⟩ := Sep.parts (I := [lsI va es, ssI vb bs, ssI ve cs]) (J := I) h5
  refine ⟨fun k => A k ∨ C k, D, fun k hk => hk.elim (h1 k) fun hc => h2 k (h6 k hc), fun k hk => h2 k (h7 k hk), fun k hk hd => hk.elim (fun ha => h3 k ha (h7 k hd)) fun hc => h8 k hc hd, ?_, h10⟩
  exact slOn_app _ _ _ _ (slOn_mono (fun _ _ => rfl) (fun _ => Or.inl) ss xs h4) (slOn_one (stOn_mono (fun _ _ => rfl) (fun _ => Or.inr) _ _ (stOn_of h9)))
theorem stT : StructT 53 11 := ⟨⟨_, Tryz.underlying53⟩, by kernel_rfl⟩
theorem stZ : Zero 53 (stA 0 0 0 [] 0 0 0 (.slice none 0 0) (.slice none 0 0) (.slice none 0 0) false) := by unfold Zero; kernel_rfl
theorem fitsS {k p m e l b : Int} {s : ByteArray} {q1 q2 q3 : Option Addr} {l1 l2 l3 c1 c2 c3 : Nat} {h : Bool} : Fits 11 #[.int .i64 k, .int .i64 p, .int .i64 m, .string s, .int .i64 e, .int .i64 l, .int .i64 b, .slice q1 l1 c1, .slice q2 l2 c2, .slice q3 l3 c3, .bool h] := ⟨rfl, by simp [Value.oneCell']⟩
/-- what a reader of a statement hands back -/
def SP (b : Nat) (L : List Lx.Tok) (r : Sx.S × Sx.R) (e : Ending) (J : List It) : Prop :=
  ∃ (k p m : Int) (nm : List UInt8) (te tl tb : Int) (q1 q2 q3 : Option Addr) (l1 l2 l3 c1 c2 c3 : Nat) (es : List Sx.E) (bs cs : List Sx.S) (h : Bool), e = .returned (.agg (stA k p m nm te tl tb (.slice q1 l1 c1) (.slice q2 l2 c2) (.slice q3 l3 c3) h)) ∧ J = [rd b L r.2, lsI (.slice q1 l1 c1) es, ssI (.slice q2 l2 c2) bs, ssI (.slice q3 l3 c3) cs] ∧ (r.2.err = 0 → r.1 = .mk k p m nm ⟨te, tl, tb⟩ es bs cs h)
/-- what a reader of a block hands back -/
def BP (b : Nat) (L : List Lx.Tok) (r : List Sx.S × Sx.R) (e : Ending) (J : List It) : Prop :=
  ∃ (q : Option Addr) (l c : Nat) (ss : List Sx.S), e = .returned (.slice q l c) ∧ J = [rd b L r.2, ssI (.slice q l c) ss] ∧ (r.2.err = 0 → r.1 = ss)
def CB (b : Nat) (L : List Lx.Tok) (σ : Sx.R) : Prop := Fn 124 #[.pointer (some ⟨b, 0, none⟩)] [rd b L σ] (BP b L (Sx.Bl L σ))
def CS (b : Nat) (L : List Lx.Tok) (σ : Sx.R) : Prop := Fn 183 #[.pointer (some ⟨b, 0, none⟩)] [rd b L σ] (SP b L (Sx.St L σ))
theorem yieldsIf_loadS {ops : Array Oper} {S : World → Prop} {o : Oper} {a : Act} {t : TypeId} {n b : Nat} {cs : Array Value} (hw : Region.wanted o (yielded ops a.tmps) = true) (ho : ldOf a o = some (t, .pointer (some ⟨b, 0, none⟩))) (T : StructT t n) (hn : cs.size = n) (hS : ∀ w, S w → w.heap[b]? = some (.cells cs t (0, 0))) : YieldsIf Tryz.prog ops S o (.agg cs) a := by
  obtain ⟨hg, y, ho, hx⟩ := ldOf_eq ho
  obtain ⟨fs, hu⟩ := T.und
  refine Or.inl ⟨hw, fun w h => ?_⟩
  have hr := run_loadVar_row w b _ _ _ _ _ (hS w h) hu rfl (by rw [hn]; exact T.info)
  unfold execOp
  simp only [ho, hx, Instr.loadAt, Instr.sureAddr, Sem.run_bind, Sem.run_pure, Result.andThen_ok, hr]
end Go.Proofs.YtjfdcnggnldgdaaGreatDoor
end
section
namespace Go.Proofs.YtjfdcnggnldgdaaGreatDoor
open Go.ChangeShapes Go.WideShapes Go.ChangeAt Go.RowKit
set_option linter.unusedVariables false
set_option linter.unusedSimpArgs false

theorem bp_cells {fn : Func} {R : Ending → World → Prop} {a : Act} {w w0 : World} {X : Nat → Prop} {I : List It} {p q : Tmp} {t u : TypeId} {n m b c : Nat} {cs ds : Array Value} (h : St X w0 w I) (i j : Nat) (T : StructT t n) (U : StructT u m) (hr : fn.results = #[.cell p t, .cell q u]) (hp : a.tmps.getD p undef = .pointer (some ⟨b, 0, none⟩)) (hq : a.tmps.getD q undef = .pointer (some ⟨c, 0, none⟩))
    (hI : I[i]? = some (.row b t cs)) (hJ : I[j]? = some (.row c u ds)) (hn : cs.size = n) (hm : ds.size = m) (hd : a.defers = []) (hR : R (.returned (.tuple #[.agg cs, .agg ds])) w) : bodyPost Tryz.prog fn R .ret a w := by
  obtain ⟨fs, hu⟩ := T.und
  obtain ⟨gs, hv⟩ := U.und
  have hp' : a.tmps[p]?.getD undef = .pointer (some ⟨b, 0, none⟩) := by simpa using hp
  have hq' : a.tmps[q]?.getD undef = .pointer (some ⟨c, 0, none⟩) := by simpa using hq
  refine bodyPost_ret ?_ hd hR
  simp [results, hr, hp', hq', asAddr, run_loadVar_row w b _ _ _ _ _ (h.row i hI) hu rfl (by rw [hn]; exact T.info), run_loadVar_row w c _ _ _ _ _ (h.row j hJ) hv rfl (by rw [hm]; exact U.info)]
abbrev tyA (t : Sx.Ty) : Array Value := #[.int .i64 t.elem, .int .i64 t.len, .int .i64 t.label]
abbrev tkV (t : Lx.Tok) : Array Value := tkA t.kind t.pos t.num (Lx.S t.text)
set_option maxHeartbeats 8000000 in
set_option maxRecDepth 100000 in
theorem declared_fn (b : Nat) (L : List Lx.Tok) (hL : Sx.Ok L) (σ : Sx.R) : Fn 182 #[.pointer (some ⟨b, 0, none⟩)] [rd b L σ]
    fun e J => e = .returned (.tuple #[.agg (tkV (Sx.decl L σ).1.1), .agg (tyA (Sx.decl L σ).1.2)]) ∧ J = [rd b L (Sx.decl L σ).2] := by
  intro w P hP h0
  have HS := Lib.hid (St.start hP h0)
  have C1 := Lib.hid (label_fn b L hL σ)
  unfold Sx.decl
  simp only []
  generalize Sx.label L σ = lb at C1 ⊢
  obtain ⟨lb, τ⟩ := lb
  have C2 := Lib.hid (take_fn b L hL τ 1 (by decide))
  simp only [] at C1 ⊢
  generalize Sx.some L 1 τ = sm at C2 ⊢
  obtain ⟨t, τ2⟩ := sm
  simp only [] at C2 ⊢
  have C3 := Lib.hid (want_fn b L hL τ2 [58] (by decide))
  have C4 := Lib.hid (elements_fn b L hL (Sx.eat L [58] τ2))
  rw [Sx.type_elems]
  generalize Sx.elems L (Sx.eat L [58] τ2) = el at C4 ⊢
  obtain ⟨⟨el, ll⟩, τ3⟩ := el
  simp only [] at C4 ⊢
  clear h0 hP hL
  go_enter Tryz.func182, Tryz.ntmps182
  go_wp2_with (first
    | (first | (refine wpl_alloc HS.out _ rfl tokZ ?_; intro b1 w1 HS1; clear HS) | (refine wpl_alloc HS1.out _ rfl tyZ ?_; intro b2 w2 HS2; clear HS1) | (refine wpl_alloc HS4.out _ rfl tokZ ?_; intro b5 w5 HS5; clear HS4) | (refine wpl_alloc HS8.out _ rfl tyZ ?_; intro b9 w9 HS9; clear HS8))
    | (go_at_call 122; refine (HS2.out.call1 C1.out).mono ?_; rintro e w3 ⟨J, ⟨rfl, rfl⟩, hs⟩; simp only [List.cons_append, List.nil_append] at hs; have HS3 := Lib.hid hs; clear hs; clear HS2)
    | (go_at_call 118; refine (HS3.out.call1 C2.out).mono ?_; rintro e w4 ⟨J, ⟨rfl, rfl⟩, hs⟩; simp only [List.cons_append, List.nil_append] at hs; have HS4 := Lib.hid hs; clear hs; clear HS3)
    | (first | (refine wpl_storeS HS5.out 1 rfl rfl tokT rfl (fitsT _ _ _ _) ?_; intro w6 hs; have HS6 := Lib.hid (show St _ _ _ (_ :: _ :: _ :: _ :: []) from hs.out); clear hs HS5) | (refine wpl_storeS HS9.out 1 rfl rfl tyT rfl (fits3i _ _ _) ?_; intro w10 hs; have HS10 := Lib.hid (show St _ _ _ (_ :: _ :: _ :: _ :: _ :: []) from hs.out); clear hs HS9) | (refine wpl_store HS10.out 1 rfl rfl intO (of_decide_eq_true rfl) rfl ?_; intro w11 hs; have HS11 := Lib.hid (show St _ _ _ (_ :: _ :: _ :: _ :: _ :: []) from hs.out); clear hs HS10))
    | (go_at_call 117; refine (HS6.out.call1 C3.out).mono ?_; rintro e w7 ⟨J, ⟨rfl, rfl⟩, hs⟩; simp only [List.cons_append, List.nil_append] at hs; have HS7 := Lib.hid hs; clear hs; clear HS6)
    | (go_at_call 211; refine (HS7.out.call1 C4.out).mono ?_; rintro e w8 ⟨J, ⟨rfl, rfl⟩, hs⟩; simp only [List.cons_append, List.nil_append] at hs; have HS8 := Lib.hid hs; clear hs; clear HS7))
  refine wp_region_held_drew (S := fun w' => w'.heap[b5]? = some (.cells (tkV t) 77 (0, 0)) ∧ w'.heap[b9]? = some (.cells (tyA ⟨el, ll, lb⟩) 47 (0, 0))) (by kernel_rfl) (⟨HS11.out.drew.row 2 rfl, HS11.out.drew.row 1 rfl⟩) (fun hHeld => ?_)
  refine tkY 0 (yieldsIf_loadS (by rfl) rfl tokT rfl (fun _ h => h.1)) ?_
  refine tkY 1 (yieldsIf_loadS (by rfl) rfl tyT rfl (fun _ h => h.2)) ?_
  refine wpAnyH_ready (rs := [2]) (by kernel_rfl) (by simp) ?_
  refine AllReadyH.cons rfl (fun K hK => ?_) AllReadyH.nil
  (refine wp_storeS HS11.out.drew 4 ⟨rfl, rfl⟩ rfl tokT rfl (fitsT _ _ _ _) ?_; intro w12 hs; have HS12 := Lib.hid (show St _ _ _ (_ :: _ :: _ :: _ :: _ :: []) from hs.out); clear hs)
  refine hK.out _ _ (⟨HS12.out.row 2 rfl, HS12.out.row 1 rfl⟩) (fun hHeld => ?_)
  clear hK K
  (try simp only [Act.put, List.setIfInBounds_toArray, List.set_cons_zero, List.set_cons_succ, List.getElem_toArray, List.getElem_cons_succ, List.getElem_cons_zero])
  refine wpAnyH_ready (rs := [3]) (by kernel_rfl) (by simp) ?_
  refine AllReadyH.cons rfl (fun K hK => ?_) AllReadyH.nil
  (refine wp_storeS HS12.out 3 ⟨rfl, rfl⟩ rfl tyT rfl (fits3i _ _ _) ?_; intro w13 hs; have HS13 := Lib.hid (show St _ _ _ (_ :: _ :: _ :: _ :: _ :: []) from hs.out); clear hs)
  refine hK.out _ _ (⟨HS13.out.row 2 rfl, HS13.out.row 1 rfl⟩) (fun hHeld => ?_)
  clear hK K
  (try simp only [Act.put, List.setIfInBounds_toArray, List.set_cons_zero, List.set_cons_succ, List.getElem_toArray, List.getElem_cons_succ, List.getElem_cons_zero])
  refine wpAnyH_done (by kernel_rfl) ?_ _
  try go_wp2
  exact bp_cells HS13.out 4 3 tokT tyT rfl rfl rfl rfl rfl rfl rfl rfl ⟨_, ⟨rfl, rfl⟩, HS13.out.sel [0] rfl⟩
theorem Sx.param_eq (L : List Lx.Tok) (σ : Sx.R) : Sx.param L σ = (⟨(Sx.decl L (Sx.may L Sx.wOut σ).2).1.1.pos, (Sx.decl L (Sx.may L Sx.wOut σ).2).1.1.text, (Sx.decl L (Sx.may L Sx.wOut σ).2).1.2, (Sx.may L Sx.wOut σ).1⟩, (Sx.decl L (Sx.may L Sx.wOut σ).2).2) := rfl
set_option maxHeartbeats 8000000 in
set_option maxRecDepth 100000 in
theorem param_fn (b : Nat) (L : List Lx.Tok) (hL : Sx.Ok L) (σ : Sx.R) : Fn 120 #[.pointer (some ⟨b, 0, none⟩)] [rd b L σ]
    fun e J => e = .returned (.agg (paA (Sx.param L σ).1.pos (Lx.S (Sx.param L σ).1.name) (Sx.param L σ).1.ty.elem (Sx.param L σ).1.ty.len (Sx.param L σ).1.ty.label (Sx.param L σ).1.out)) ∧ J = [rd b L (Sx.param L σ).2] := by
  intro w P hP h0
  have HS := Lib.hid (St.start hP h0)
  have C1 := Lib.hid (may_fn b L hL σ Sx.wOut (by decide))
  rw [Sx.param_eq]
  generalize Sx.may L Sx.wOut σ = oo at C1 ⊢
  obtain ⟨oo, ρ⟩ := oo
  simp only [] at C1 ⊢
  have CD := Lib.hid (declared_fn b L hL ρ)
  generalize Sx.decl L ρ = dd at CD ⊢
  obtain ⟨⟨t, ty⟩, τ⟩ := dd
  obtain ⟨te, tl, tb⟩ := ty
  simp only [] at CD ⊢
  clear h0 hP hL
  go_enter Tryz.func120, Tryz.ntmps120
  go_wp2_with (first
    | (first | (refine wpl_alloc HS.out _ rfl paZ ?_; intro b1 w1 HS1; clear HS) | (refine wpl_alloc HS3.out _ rfl tokZ ?_; intro b4 w4 HS4; clear HS3) | (refine wpl_alloc HS4.out _ rfl tyZ ?_; intro b5 w5 HS5; clear HS4))
    | (go_at_call 121; refine (HS1.out.call1 C1.out).mono ?_; rintro e w2 ⟨J, ⟨rfl, rfl⟩, hs⟩; simp only [List.cons_append, List.nil_append] at hs; have HS2 := Lib.hid hs; clear hs; clear HS1)
    | (go_at_call 182; refine (HS2.out.call1 CD.out).mono ?_; rintro e w3 ⟨J, ⟨rfl, rfl⟩, hs⟩; simp only [List.cons_append, List.nil_append] at hs; have HS3 := Lib.hid hs; clear hs HS2)
    | (first | (refine wpl_storeS HS5.out 2 rfl rfl tokT rfl (fitsT _ _ _ _) ?_; intro w6 hs; have HS6 := Lib.hid (show St _ _ _ (_ :: _ :: _ :: _ :: []) from hs.out); clear hs HS5) | (refine wpl_storeS HS6.out 1 rfl rfl tyT rfl (fits3i _ _ _) ?_; intro w7 hs; have HS7 := Lib.hid (show St _ _ _ (_ :: _ :: _ :: _ :: []) from hs.out); clear hs HS6) | (refine wpl_storeS HS7.out 3 rfl rfl paT rfl (fitsP _ _ _ _ _ _) ?_; intro w8 hs; have HS8 := Lib.hid (show St _ _ _ (_ :: _ :: _ :: _ :: []) from hs.out); clear hs HS7))
    | (first | (refine wpl_load HS7.out 2 rfl rfl intO rfl ?_) | (refine wpl_load HS7.out 2 rfl rfl strO rfl ?_) | (refine wpl_loadS HS7.out 1 rfl rfl tyT rfl ?_)))
  exact bp_cell HS8.out 3 paT rfl rfl rfl rfl rfl ⟨_, ⟨rfl, rfl⟩, HS8.out.sel [0] rfl⟩
def CV (b : Nat) (L : List Lx.Tok) (σ : Sx.R) : Prop := Fn 216 #[.pointer (some ⟨b, 0, none⟩)] [rd b L σ] (EP b L (Sx.vl L σ))
theorem Sx.eat_ok {L : List Lx.Tok} {s : List UInt8} {σ : Sx.R} (h : (Sx.eat L s σ).err = 0) : σ.err = 0 := (Sx.sees_text (Sx.eat_sees h)).1
set_option maxHeartbeats 8000000 in
set_option maxRecDepth 100000 in
theorem value_fn (b : Nat) (L : List Lx.Tok) (hL : Sx.Ok L) (σ : Sx.R) : CV b L σ := by
  intro w P hP h0
  have HS := Lib.hid (St.start hP h0)
  have CX := Lib.hid (expr_any b L hL σ)
  have C2 := Lib.hid (want_fn b L hL (Sx.X L 0 σ).2 [59] (by decide))
  clear h0 hP hL
  go_enter Tryz.func216, Tryz.ntmps216
  go_wp2_with (first
    | (first | (refine wpl_alloc HS.out _ rfl exZ ?_; intro b1 w1 HS1; clear HS) | (refine wpl_alloc HS2.out _ rfl exZ ?_; intro b3 w3 HS3; clear HS2))
    | (go_at_call 243; refine (HS1.out.call1 CX.out).mono ?_; rintro e w2 ⟨J, ⟨k2, p2, n2, nm2, v2, es2, rfl, rfl, hx2, h12⟩, hs⟩; simp only [List.cons_append, List.nil_append] at hs; have HX2 := Lib.hid hx2; obtain ⟨q2, l2, cap2, rfl⟩ := hs.lsLen 1 rfl; have HS2 := Lib.hid hs; clear hs hx2)
    | (first | (refine wpl_storeS HS3.out 1 rfl rfl exT rfl fitsX' ?_; intro w4 hs; have HS4 := Lib.hid (show St _ _ _ (_ :: _ :: _ :: _ :: []) from hs.out); clear hs HS3) | (refine wpl_storeS HS5.out 3 rfl rfl exT rfl fitsX' ?_; intro w6 hs; have HS6 := Lib.hid (show St _ _ _ (_ :: _ :: _ :: _ :: []) from hs.out); clear hs HS5))
    | (go_at_call 117; refine (HS4.out.call1 C2.out).mono ?_; rintro e w5 ⟨J, ⟨rfl, rfl⟩, hs⟩; simp only [List.cons_append, List.nil_append] at hs; have HS5 := Lib.hid hs; clear hs; clear HS4)
    | (refine wpl_loadS HS5.out 1 rfl rfl exT rfl ?_))
  exact bp_cell HS6.out 3 exT rfl rfl rfl rfl rfl ⟨_, ⟨k2, p2, n2, nm2, _, es2, rfl, rfl, fun h => HX2.out (Sx.eat_ok h), rfl⟩, HS6.out.sel [0, 1] rfl⟩
set_option maxHeartbeats 8000000 in
set_option maxRecDepth 100000 in
theorem let_fn (b : Nat) (L : List Lx.Tok) (hL : Sx.Ok L) (σ : Sx.R) : Fn 212 #[.pointer (some ⟨b, 0, none⟩)] [rd b L σ] (SP b L (Sx.lett L σ)) := by
  intro w P hP h0
  have HS := Lib.hid (St.start hP h0)
  have C1 := Lib.hid (take_fn b L hL σ 1 (by decide))
  unfold Sx.lett
  simp only []
  generalize Sx.some L 1 σ = sm at C1 ⊢
  obtain ⟨t, τ⟩ := sm
  simp only [] at C1 ⊢
  have C2 := Lib.hid (want_fn b L hL τ [61] (by decide))
  have CX := Lib.hid (value_fn b L hL (Sx.eat L [61] τ))
  have hF3 := tokF3
  clear h0 hP hL
  go_enter Tryz.func212, Tryz.ntmps212
  go_wp2_with (first
    | (refine wpl_alloc HS.out _ rfl stZ ?_; intro b1 w1 HS1; clear HS)
    | (go_at_call 118; refine (HS1.out.call1 C1.out).mono ?_; rintro e w2 ⟨J, ⟨rfl, rfl⟩, hs⟩; simp only [List.cons_append, List.nil_append] at hs; have HS2 := Lib.hid hs; clear hs; clear HS1)
    | (go_at_call 117; refine (HS2.out.call1 C2.out).mono ?_; rintro e w3 ⟨J, ⟨rfl, rfl⟩, hs⟩; simp only [List.cons_append, List.nil_append] at hs; have HS3 := Lib.hid hs; clear hs; clear HS2)
    | (go_at_call 216; refine (HS3.out.call1 CX.out).mono ?_; rintro e w4 ⟨J, ⟨k2, p2, n2, nm2, v2, es2, rfl, rfl, hx2, h12⟩, hs⟩; simp only [List.cons_append, List.nil_append] at hs; have HX2 := Lib.hid hx2; obtain ⟨q2, l2, cap2, rfl⟩ := hs.lsLen 1 rfl; have HS4 := Lib.hid hs; clear hs hx2; clear HS3)
    | (refine wpl_slice HS4.out rfl Tryz.underlying51 (exB _ _ _ _ _) ?_; intro b5 w5 HS5; clear HS4)
    | (refine wpl_storeS HS5.out 3 rfl rfl stT rfl fitsS ?_; intro w6 hs; have HS6 := Lib.hid (show St _ _ _ (_ :: _ :: _ :: _ :: []) from hs.out); clear hs HS5))
  refine bp_cell HS6.out 3 stT rfl rfl rfl rfl rfl ⟨_, ⟨1, 0, 0, t.text, 0, 0, 0, _, _, _, _, _, _, _, _, _, [.mk k2 p2 n2 nm2 es2], [], [], false, rfl, rfl, fun h => ?_⟩, (St.sel HS6.out [0, 0, 0] rfl).to fun P h => h.under fun P h => (lsI_one h).under fun P h => ssI_nil (ssI_nil h)⟩
  exact congrArg (fun z => Sx.S.mk 1 0 0 t.text Sx.noTy [z] [] [] false) (HX2.out h)
set_option maxHeartbeats 8000000 in
set_option maxRecDepth 100000 in
theorem declaration_fn (b : Nat) (L : List Lx.Tok) (hL : Sx.Ok L) (σ : Sx.R) : Fn 213 #[.pointer (some ⟨b, 0, none⟩)] [rd b L σ] (SP b L (Sx.dcl L σ)) := by
  intro w P hP h0
  have HS := Lib.hid (St.start hP h0)
  have CD := Lib.hid (declared_fn b L hL σ)
  unfold Sx.dcl
  simp only []
  generalize Sx.decl L σ = dd at CD ⊢
  obtain ⟨⟨t, ty⟩, τ⟩ := dd
  obtain ⟨te, tl, tb⟩ := ty
  simp only [] at CD ⊢
  have C2 := Lib.hid (want_fn b L hL τ [59] (by decide))
  clear h0 hP hL
  go_enter Tryz.func213, Tryz.ntmps213
  go_wp2_with (first
    | (first | (refine wpl_alloc HS.out _ rfl stZ ?_; intro b1 w1 HS1; clear HS) | (refine wpl_alloc HS3.out _ rfl tokZ ?_; intro b4 w4 HS4; clear HS3) | (refine wpl_alloc HS4.out _ rfl tyZ ?_; intro b5 w5 HS5; clear HS4))
    | (go_at_call 182; refine (HS1.out.call1 CD.out).mono ?_; rintro e w3 ⟨J, ⟨rfl, rfl⟩, hs⟩; simp only [List.cons_append, List.nil_append] at hs; have HS3 := Lib.hid hs; clear hs HS1)
    | (first | (refine wpl_storeS HS5.out 2 rfl rfl tokT rfl (fitsT _ _ _ _) ?_; intro w6 hs; have HS6 := Lib.hid (show St _ _ _ (_ :: _ :: _ :: _ :: []) from hs.out); clear hs HS5) | (refine wpl_storeS HS6.out 1 rfl rfl tyT rfl (fits3i _ _ _) ?_; intro w7 hs; have HS7 := Lib.hid (show St _ _ _ (_ :: _ :: _ :: _ :: []) from hs.out); clear hs HS6) | (refine wpl_storeS HS8.out 3 rfl rfl stT rfl fitsS ?_; intro w9 hs; have HS9 := Lib.hid (show St _ _ _ (_ :: _ :: _ :: _ :: []) from hs.out); clear hs HS8))
    | (go_at_call 117; refine (HS7.out.call1 C2.out).mono ?_; rintro e w8 ⟨J, ⟨rfl, rfl⟩, hs⟩; simp only [List.cons_append, List.nil_append] at hs; have HS8 := Lib.hid hs; clear hs; clear HS7)
    | (first | (refine wpl_load HS8.out 2 rfl rfl strO rfl ?_) | (refine wpl_loadS HS8.out 1 rfl rfl tyT rfl ?_)))
  exact bp_cell HS9.out 3 stT rfl rfl rfl rfl rfl ⟨_, ⟨2, 0, 0, t.text, te, tl, tb, _, _, _, _, _, _, _, _, _, [], [], [], false, rfl, rfl, fun h => rfl⟩, (St.sel HS9.out [0] rfl).to fun P h => h.under fun P h => lsI_nil (ssI_nil (ssI_nil h))⟩
end Go.Proofs.YtjfdcnggnldgdaaGreatDoor
end
