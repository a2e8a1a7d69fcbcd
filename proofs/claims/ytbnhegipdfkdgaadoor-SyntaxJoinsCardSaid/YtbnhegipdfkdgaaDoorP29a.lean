/-
Statements: equations without fuel; their trees in the heap as parts.
-/
import Derived.Test.YtbnhegipdfkdgaaDoorP28a
namespace Go.Proofs.YtbnhegipdfkdgaaDoor
open Go.ChangeShapes Go.WideShapes Go.ChangeAt Go.RowKit
set_option linter.unusedVariables false
set_option linter.unusedSimpArgs false

/-! ### equations -/
def Sx.S.at' (p : Int) : Sx.S → Sx.S
  | .mk k _ m nm ty a b e h => .mk k p m nm ty a b e h
/-- a name with its label and type -/
def Sx.decl (L : List Lx.Tok) (σ : Sx.R) : (Lx.Tok × Sx.Ty) × Sx.R :=
  let l := Sx.label L σ
  let n := Sx.some L 1 l.2
  let t := Sx.type L false l.1 (Sx.eat L [58] n.2)
  ((n.1, t.1), t.2)
/-- an expression and the sign behind it -/
def Sx.vl (L : List Lx.Tok) (σ : Sx.R) : Sx.E × Sx.R := ((Sx.X L 0 σ).1, Sx.eat L [59] (Sx.X L 0 σ).2)
def Sx.lett (L : List Lx.Tok) (σ : Sx.R) : Sx.S × Sx.R :=
  let n := Sx.some L 1 σ
  let v := Sx.vl L (Sx.eat L [61] n.2)
  (.mk 1 0 0 n.1.text Sx.noTy [v.1] [] [] false, v.2)
def Sx.dcl (L : List Lx.Tok) (σ : Sx.R) : Sx.S × Sx.R :=
  let d := Sx.decl L σ
  (.mk 2 0 0 d.1.1.text d.1.2 [] [] [] false, Sx.eat L [59] d.2)
def Sx.brn (L : List Lx.Tok) (σ : Sx.R) : Sx.S × Sx.R :=
  let c := Sx.X L 0 σ
  let b := Sx.Bl L c.2
  if Sx.sees L Sx.wElse b.2 then
    let e := Sx.Bl L { b.2 with at' := b.2.at' + 1 }
    (.mk 5 0 0 [] Sx.noTy [c.1] b.1 e.1 true, e.2)
  else (.mk 5 0 0 [] Sx.noTy [c.1] b.1 [] false, b.2)
def Sx.lop (L : List Lx.Tok) (σ : Sx.R) : Sx.S × Sx.R :=
  let n := Sx.some L 1 σ
  let c := Sx.X L 0 (Sx.eat L [60] n.2)
  let m := Sx.some L 2 (Sx.eat L Sx.wMax c.2)
  let b := Sx.Bl L m.2
  (.mk 6 0 m.1.num n.1.text Sx.noTy [c.1] b.1 [] false, b.2)
def Sx.ret (L : List Lx.Tok) (σ : Sx.R) : Sx.S × Sx.R := (.mk 8 0 0 [] Sx.noTy [(Sx.vl L σ).1] [] [] false, (Sx.vl L σ).2)
theorem Sx.named_at (L : List Lx.Tok) (p : Int) (σ : Sx.R) : Sx.named L p σ = ((Sx.named L 0 σ).1.at' p, (Sx.named L 0 σ).2) := by
  unfold Sx.named
  simp only []
  split
  · rfl
  · split
    · rfl
    · rfl
/-- a statement, by what it begins with -/
def Sx.stm (L : List Lx.Tok) (σ : Sx.R) : Sx.S × Sx.R :=
  let τ : Sx.R := { σ with at' := σ.at' + 1 }
  if Sx.sees L Sx.wLet σ then Sx.lett L τ
  else if Sx.sees L Sx.wVar σ then Sx.dcl L τ
  else if Sx.sees L Sx.wIf σ then Sx.brn L τ
  else if Sx.sees L Sx.wFor σ then Sx.lop L τ
  else if Sx.sees L Sx.wRet σ then Sx.ret L τ
  else Sx.named L 0 σ
section
variable {L : List Lx.Tok} (hL : Sx.Ends L)
include hL
theorem Sx.Bl_eq {σ : Sx.R} (hi : σ.at' < L.length) : Sx.Bl L σ = ((Sx.Ss L (Sx.nest L [123] σ)).1, Sx.unnest L [125] (Sx.Ss L (Sx.nest L [123] σ)).2) := by
  have h := Sx.fuel_M L σ
  unfold Sx.Bl Sx.Ss
  rw [(Sx.enough_stmts hL _).1 (Sx.fuel L + 1) σ hi (by omega) (by omega), Sx.block]
theorem Sx.Ss_stop {σ : Sx.R} (hi : σ.at' < L.length) (h : σ.err ≠ 0 ∨ Sx.sees L [125] σ = true) : Sx.Ss L σ = ([], σ) := by
  have h' := Sx.fuel_M L σ
  unfold Sx.Ss
  rw [(Sx.enough_stmts hL _).2.1 (Sx.fuel L + 1) σ hi (by omega) (by omega), Sx.stmts, if_neg]
  rcases h with h | h
  · simp [h]
  · simp [h]
theorem Sx.Ss_go {σ : Sx.R} (hi : σ.at' < L.length) (he : σ.err = 0) (hs : Sx.sees L [125] σ = false) : Sx.Ss L σ = ((Sx.St L σ).1 :: (Sx.Ss L (Sx.St L σ).2).1, (Sx.Ss L (Sx.St L σ).2).2) := by
  have h' := Sx.fuel_M L σ
  unfold Sx.Ss Sx.St
  rw [(Sx.enough_stmts hL _).2.1 (Sx.fuel L + 1) σ hi (by omega) (by omega), Sx.stmts, if_pos (by simp [he, hs])]
theorem Sx.St_eq {σ : Sx.R} (hi : σ.at' < L.length) (he : σ.err = 0) : Sx.St L σ = ((Sx.stm L σ).1.at' (Sx.tk L σ).pos, (Sx.stm L σ).2) := by
  have h' := Sx.fuel_M L σ
  unfold Sx.St
  rw [(Sx.enough_stmts hL _).2.2 (Sx.fuel L + 1) σ hi he (by omega) (by omega), Sx.stmt]
  unfold Sx.stm
  simp only []
  by_cases h1 : Sx.sees L Sx.wLet σ = true
  · rw [Sx.may_is h1, if_pos rfl, if_pos h1]
    rfl
  rw [Sx.may_no (by simpa using h1), if_neg Bool.false_ne_true, if_neg h1]
  by_cases h2 : Sx.sees L Sx.wVar σ = true
  · rw [Sx.may_is h2, if_pos rfl, if_pos h2]
    rfl
  rw [Sx.may_no (by simpa using h2), if_neg Bool.false_ne_true, if_neg h2]
  by_cases h3 : Sx.sees L Sx.wIf σ = true
  · rw [Sx.may_is h3, if_pos rfl, if_pos h3]
    simp only []
    unfold Sx.brn
    simp only []
    show (if (Sx.may L Sx.wElse (Sx.Bl L (Sx.X L 0 { σ with at' := σ.at' + 1 }).2).2).1 = true then (Sx.S.mk 5 (Sx.tk L σ).pos 0 [] Sx.noTy [(Sx.X L 0 { σ with at' := σ.at' + 1 }).1] (Sx.Bl L (Sx.X L 0 { σ with at' := σ.at' + 1 }).2).1 (Sx.Bl L (Sx.may L Sx.wElse (Sx.Bl L (Sx.X L 0 { σ with at' := σ.at' + 1 }).2).2).2).1 true, (Sx.Bl L (Sx.may L Sx.wElse (Sx.Bl L (Sx.X L 0 { σ with at' := σ.at' + 1 }).2).2).2).2) else (Sx.S.mk 5 (Sx.tk L σ).pos 0 [] Sx.noTy [(Sx.X L 0 { σ with at' := σ.at' + 1 }).1] (Sx.Bl L (Sx.X L 0 { σ with at' := σ.at' + 1 }).2).1 [] false, (Sx.may L Sx.wElse (Sx.Bl L (Sx.X L 0 { σ with at' := σ.at' + 1 }).2).2).2)) = _
    generalize Sx.Bl L (Sx.X L 0 { σ with at' := σ.at' + 1 }).2 = bb
    by_cases h6 : Sx.sees L Sx.wElse bb.2 = true
    · rw [Sx.may_is h6, if_pos rfl, if_pos h6]
      rfl
    · rw [Sx.may_no (by simpa using h6), if_neg Bool.false_ne_true, if_neg h6]
      rfl
  rw [Sx.may_no (by simpa using h3), if_neg Bool.false_ne_true, if_neg h3]
  by_cases h4 : Sx.sees L Sx.wFor σ = true
  · rw [Sx.may_is h4, if_pos rfl, if_pos h4]
    rfl
  rw [Sx.may_no (by simpa using h4), if_neg Bool.false_ne_true, if_neg h4]
  by_cases h5 : Sx.sees L Sx.wRet σ = true
  · rw [Sx.may_is h5, if_pos rfl, if_pos h5]
    rfl
  rw [Sx.may_no (by simpa using h5), if_neg Bool.false_ne_true, if_neg h5]
  exact Sx.named_at L _ σ
theorem Sx.M_St {σ : Sx.R} (hi : σ.at' < L.length) (he : σ.err = 0) : Sx.M L (Sx.St L σ).2 + 16 ≤ Sx.M L σ := by
  have h : Sx.fuel L = 16 * L.length + 15 + 1 := rfl
  unfold Sx.St
  rw [h]
  exact Sx.M_stmt hL he hi
theorem Sx.St_at {σ : Sx.R} (hi : σ.at' < L.length) (he : σ.err = 0) (h : (Sx.St L σ).2.err = 0) : σ.at' + 1 ≤ (Sx.St L σ).2.at' := by
  have h1 := Sx.M_St hL hi he
  have h2 := (Sx.le_stmts hL (Sx.fuel L)).2.2 σ
  have h3 : (Sx.St L σ).2.at' < L.length := h2.2.2.1 hi
  unfold Sx.M at h1
  rw [if_neg (by simpa using h), if_neg (by simpa using he)] at h1
  omega
end
/-! ### trees -/
abbrev stA (k p m : Int) (nm : List UInt8) (e l b : Int) (va vb ve : Value) (h : Bool) : Array Value := #[.int .i64 k, .int .i64 p, .int .i64 m, .string (Lx.S nm), .int .i64 e, .int .i64 l, .int .i64 b, va, vb, ve, .bool h]
mutual
/-- cells that are a statement -/
def stOn (w : World) (P : Nat → Prop) : Sx.S → List Value → Prop
  | .mk k p m nm ty es bs cs h, xs => ∃ va vb ve xa xb xe, xs = (stA k p m nm ty.elem ty.len ty.label va vb ve h).toList ∧ (OwnP w P 44 5 va es.length xa ∧ elOn w P es xa) ∧ (OwnP w P 42 11 vb bs.length xb ∧ slOn w P bs xb) ∧ (OwnP w P 42 11 ve cs.length xe ∧ slOn w P cs xe)
/-- cells that are statements, one behind the other -/
def slOn (w : World) (P : Nat → Prop) : List Sx.S → List Value → Prop
  | [], xs => xs = []
  | s :: ss, xs => ∃ c r, xs = c ++ r ∧ stOn w P s c ∧ slOn w P ss r
end
mutual
theorem stOn_mono {w w' : World} {P P' : Nat → Prop} (e : ∀ k, P k → w'.heap[k]? = w.heap[k]?) (f : ∀ k, P k → P' k) : ∀ (x : Sx.S) (cs : List Value), stOn w P x cs → stOn w' P' x cs
  | .mk k p m nm ty es bs cs h, xs, hx => by
    rw [stOn] at hx ⊢
    obtain ⟨va, vb, ve, xa, xb, xe, h1, ⟨h2, h3⟩, ⟨h4, h5⟩, ⟨h6, h7⟩⟩ := hx
    exact ⟨va, vb, ve, xa, xb, xe, h1, ⟨h2.mono e f, elOn_mono e f es xa h3⟩, ⟨h4.mono e f, slOn_mono e f bs xb h5⟩, ⟨h6.mono e f, slOn_mono e f cs xe h7⟩⟩
theorem slOn_mono {w w' : World} {P P' : Nat → Prop} (e : ∀ k, P k → w'.heap[k]? = w.heap[k]?) (f : ∀ k, P k → P' k) : ∀ (l : List Sx.S) (xs : List Value), slOn w P l xs → slOn w' P' l xs
  | [], xs, h => by rw [slOn] at h ⊢; exact h
  | x :: ss, xs, h => by
    rw [slOn] at h ⊢
    obtain ⟨c, r, h1, h2, h3⟩ := h
    exact ⟨c, r, h1, stOn_mono e f x c h2, slOn_mono e f ss r h3⟩
end
theorem slOn_app {w : World} {P : Nat → Prop} : ∀ (l l' : List Sx.S) (xs ys : List Value), slOn w P l xs → slOn w P l' ys → slOn w P (l ++ l') (xs ++ ys)
  | [], l', xs, ys, h, h' => by rw [slOn] at h; subst h; exact h'
  | x :: ss, l', xs, ys, h, h' => by
    rw [slOn] at h
    obtain ⟨c, r, rfl, h2, h3⟩ := h
    rw [List.cons_append, slOn]
    exact ⟨c, r ++ ys, by rw [List.append_assoc], h2, slOn_app ss l' r ys h3 h'⟩
theorem slOn_one {w : World} {P : Nat → Prop} {x : Sx.S} {c : List Value} (h : stOn w P x c) : slOn w P [x] c := by
  rw [slOn]
  exact ⟨c, [], by rw [List.append_nil], h, by rw [slOn]⟩
/-- statements, as cells -/
def slI (ss : List Sx.S) (xs : List Value) : It := .hp
  { on := fun w P => slOn w P ss xs
    loc := fun w w' P h e => slOn_mono e (fun _ h => h) ss xs h
    wide := fun w P P' h f => slOn_mono (fun _ _ => rfl) f ss xs h }
/-- a slice of statements -/
def ssI (v : Value) (ss : List Sx.S) : It := .hp
  { on := fun w P => ∃ xs, Sep w [ownI 42 11 v ss.length xs, slI ss xs] P
    loc := fun w w' P ⟨xs, h⟩ e => ⟨xs, h.loc e⟩
    wide := fun w P P' ⟨xs, h⟩ f => ⟨xs, h.wide f⟩ }
theorem ssI_open {w : World} {I : List It} {P : Nat → Prop} {v : Value} {ss : List Sx.S} (h : Sep w (ssI v ss :: I) P) : ∃ xs, Sep w (ownI 42 11 v ss.length xs :: slI ss xs :: I) P := by
  obtain ⟨A, B, h1, h2, h3, ⟨xs, h4⟩, h5⟩ := h
  exact ⟨xs, Sep.cat h4 h5 h1 h2 h3⟩
theorem ssI_close {w : World} {I : List It} {P : Nat → Prop} {v : Value} {ss : List Sx.S} {n : Nat} {xs : List Value} (hn : n = ss.length) (h : Sep w (ownI 42 11 v n xs :: slI ss xs :: I) P) : Sep w (ssI v ss :: I) P := by
  subst hn
  obtain ⟨A, B, h1, h2, h3, h4, h5⟩ := Sep.parts (I := [ownI 42 11 v ss.length xs, slI ss xs]) (J := I) h
  exact ⟨A, B, h1, h2, h3, ⟨xs, h4⟩, h5⟩
theorem slI_nil (w : World) (P : Nat → Prop) : (slI [] []).on w P := by show slOn w P [] []; rw [slOn]
theorem ssI_nil {w : World} {I : List It} {P : Nat → Prop} (h : Sep w I P) : Sep w (ssI (.slice none 0 0) [] :: I) P :=
  ssI_close rfl (Sep.emp (Sep.emp h (slI_nil w _)) ⟨World.ownsRow_nil _ _ _ _, fun g hg => by cases hg⟩)
/-- a statement's tree, out of its parts -/
theorem stOn_of {w : World} {P : Nat → Prop} {k p m e l b : Int} {nm : List UInt8} {va vb ve : Value} {es : List Sx.E} {bs cs : List Sx.S} {h : Bool} (hs : Sep w [lsI va es, ssI vb bs, ssI ve cs] P) : stOn w P (.mk k p m nm ⟨e, l, b⟩ es bs cs h) (stA k p m nm e l b va vb ve h).toList := by
  obtain ⟨xa, hs⟩ := lsI_open hs
  obtain ⟨A, B, h1, h2, h3, h4, C, D, h5, h6, h7, h8, E, F, g1, g2, g3, ⟨xb, hb⟩, G, H, g4, g5, g6, ⟨xe, he⟩, _⟩ := hs
  obtain ⟨A1, B1, a1, a2, a3, a4, C1, D1, a5, a6, a7, a8, a9⟩ := hb
  obtain ⟨A2, B2, c1, c2, c3, c4, C2, D2, c5, c6, c7, c8, c9⟩ := he
  rw [stOn]
  refine ⟨va, vb, ve, xa, xb, xe, rfl, ⟨OwnP.mono h4 (fun _ _ => rfl) h1, elOn_mono (fun _ _ => rfl) (fun k hk => h2 k (h5 k hk)) es xa h8⟩, ⟨OwnP.mono a4 (fun _ _ => rfl) (fun k hk => h2 k (h6 k (g1 k (a1 k hk)))), slOn_mono (fun _ _ => rfl) (fun k hk => h2 k (h6 k (g1 k (a2 k (a5 k hk))))) bs xb a8⟩, ⟨OwnP.mono c4 (fun _ _ => rfl) (fun k hk => h2 k (h6 k (g2 k (g4 k (c1 k hk))))), slOn_mono (fun _ _ => rfl) (fun k hk => h2 k (h6 k (g2 k (g4 k (c2 k (c5 k hk)))))) cs xe c8⟩⟩
/-- one statement more among the elements -/
theorem slI_more {w : World} {I : List It} {P : Nat → Prop} {k p m e l b : Int} {nm : List UInt8} {va vb ve : Value} {es : List Sx.E} {bs cs ss : List Sx.S} {h : Bool} {xs : List Value}
    (hs : Sep w (slI ss xs :: lsI va es :: ssI vb bs :: ssI ve cs :: I) P) : Sep w (slI (ss ++ [.mk k p m nm ⟨e, l, b⟩ es bs cs h]) (xs ++ (stA k p m nm e l b va vb ve h).toList) :: I) P := by
  obtain ⟨A, B, h1, h2, h3, h4, h5⟩ := hs
  obtain ⟨C, D, h6, h7, h8, h9, h10⟩ := Sep.parts (I := [lsI va es, ssI vb bs, ssI ve cs]) (J := I) h5
  refine ⟨fun k => A k ∨ C k, D, fun k hk => hk.elim (h1 k) fun hc => h2 k (h6 k hc), fun k hk => h2 k (h7 k hk), fun k hk hd => hk.elim (fun ha => h3 k ha (h7 k hd)) fun hc => h8 k hc hd, ?_, h10⟩
  exact slOn_app _ _ _ _ (slOn_mono (fun _ _ => rfl) (fun _ => Or.inl) ss xs h4) (slOn_one (stOn_mono (fun _ _ => rfl) (fun _ => Or.inr) _ _ (stOn_of h9)))
theorem St.ssLen {X : Nat → Prop} {w0 w : World} {I : List It} (h : St X w0 w I) (i : Nat) {v : Value} {ss : List Sx.S} (hi : I[i]? = some (ssI v ss)) : ∃ q n cap, v = .slice q n cap := by
  obtain ⟨A, B, h1, h2, h3, h4, h5⟩ := Sep.pick i h.sep hi
  obtain ⟨xs, C, D, h6, h7, h8, h9, h10⟩ := h4
  obtain ⟨q, cap, hv⟩ := own_len h9
  exact ⟨q, _, cap, hv⟩
theorem stT : StructT 42 11 := ⟨⟨_, Tryd.underlying42⟩, by kernel_rfl⟩
theorem stZ : Zero 42 (stA 0 0 0 [] 0 0 0 (.slice none 0 0) (.slice none 0 0) (.slice none 0 0) false) := by unfold Zero; kernel_rfl
theorem fitsS {k p m e l b : Int} {s : ByteArray} {q1 q2 q3 : Option Addr} {l1 l2 l3 c1 c2 c3 : Nat} {h : Bool} : Fits 11 #[.int .i64 k, .int .i64 p, .int .i64 m, .string s, .int .i64 e, .int .i64 l, .int .i64 b, .slice q1 l1 c1, .slice q2 l2 c2, .slice q3 l3 c3, .bool h] := ⟨rfl, by simp [Value.oneCell']⟩
/-- what a reader of a statement hands back -/
def SP (b : Nat) (L : List Lx.Tok) (r : Sx.S × Sx.R) (e : Ending) (J : List It) : Prop :=
  ∃ (k p m : Int) (nm : List UInt8) (te tl tb : Int) (q1 q2 q3 : Option Addr) (l1 l2 l3 c1 c2 c3 : Nat) (es : List Sx.E) (bs cs : List Sx.S) (h : Bool), e = .returned (.agg (stA k p m nm te tl tb (.slice q1 l1 c1) (.slice q2 l2 c2) (.slice q3 l3 c3) h)) ∧ J = [rd b L r.2, lsI (.slice q1 l1 c1) es, ssI (.slice q2 l2 c2) bs, ssI (.slice q3 l3 c3) cs] ∧ (r.2.err = 0 → r.1 = .mk k p m nm ⟨te, tl, tb⟩ es bs cs h)
/-- what a reader of a block hands back -/
def BP (b : Nat) (L : List Lx.Tok) (r : List Sx.S × Sx.R) (e : Ending) (J : List It) : Prop :=
  ∃ (q : Option Addr) (l c : Nat) (ss : List Sx.S), e = .returned (.slice q l c) ∧ J = [rd b L r.2, ssI (.slice q l c) ss] ∧ (r.2.err = 0 → r.1 = ss)
def CB (b : Nat) (L : List Lx.Tok) (σ : Sx.R) : Prop := Fn 35 #[.pointer (some ⟨b, 0, none⟩)] [rd b L σ] (BP b L (Sx.Bl L σ))
def CS (b : Nat) (L : List Lx.Tok) (σ : Sx.R) : Prop := Fn 50 #[.pointer (some ⟨b, 0, none⟩)] [rd b L σ] (SP b L (Sx.St L σ))
theorem yieldsIf_loadS {ops : Array Oper} {S : World → Prop} {o : Oper} {a : Act} {t : TypeId} {n b : Nat} {cs : Array Value} (hw : Region.wanted o (yielded ops a.tmps) = true) (ho : ldOf a o = some (t, .pointer (some ⟨b, 0, none⟩))) (T : StructT t n) (hn : cs.size = n) (hS : ∀ w, S w → w.heap[b]? = some (.cells cs t (0, 0))) : YieldsIf Tryd.prog ops S o (.agg cs) a := by
  obtain ⟨hg, y, ho, hx⟩ := ldOf_eq ho
  obtain ⟨fs, hu⟩ := T.und
  refine Or.inl ⟨hw, fun w h => ?_⟩
  have hr := run_loadVar_row w b _ _ _ _ _ (hS w h) hu rfl (by rw [hn]; exact T.info)
  unfold execOp
  simp only [ho, hx, Instr.loadAt, Instr.sureAddr, Sem.run_bind, Sem.run_pure, Result.andThen_ok, hr]
end Go.Proofs.YtbnhegipdfkdgaaDoor
