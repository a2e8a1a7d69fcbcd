/-
Plain mathematics of layer 12: tokens as a program, as the document's own answer reads them (a reader's state: how far, how many nests, the first error). It names nothing of the translated program's numbers.
Plain mathematics of layer 11, second part: what is left of a text behind blanks and remarks, and the signs as a list.
What the small functions of lex and of the document's answer for layer 11 return: a byte's kind.
-/
import Derived.Test.YtbnhegipdfkdgaaDoorP01a
import Derived.Lib.Bytealg
import Derived.Deep.Slices
import Derived.Lib.Hide
import Derived.WalkKit
import Derived.ProofKit
import Derived.OwnWalk
import Derived.Below
import Derived.LoopN
import Derived.Laws.Cover1
import Derived.Handy
import Derived.Lib.SmallJoins
import Derived.OpenShut
import Derived.Deep.RegionHeld3
import Derived.SizedLaws
import Derived.BigQuiet
import Derived.Lib.TrimByte
import Derived.Test.YtbnhegipdfkdgaaDoorRows
section
set_option linter.unusedVariables false
set_option linter.unusedSimpArgs false
namespace Go.Proofs.YtbnhegipdfkdgaaDoor

/-- an expression -/
inductive Sx.E where
  | mk (kind pos num : Int) (name : List UInt8) (args : List Sx.E)
structure Sx.Ty where
  elem : Int
  len : Int
  label : Int
  deriving DecidableEq
/-- a statement -/
inductive Sx.S where
  | mk (kind pos most : Int) (name : List UInt8) (ty : Sx.Ty) (args : List Sx.E) (body els : List Sx.S) (has : Bool)
structure Sx.Pa where
  pos : Int
  name : List UInt8
  ty : Sx.Ty
  out : Bool
structure Sx.F where
  pos : Int
  name : List UInt8
  params : List Sx.Pa
  has : Bool
  result : Sx.Ty
  body : List Sx.S
/-- a reader's state: how many tokens are read, how many nests are open, and the first error (0: none) -/
structure Sx.R where
  at' : Nat
  opn : Int
  err : Int
  pos : Int
  deriving DecidableEq
def Sx.tk (L : List Lx.Tok) (σ : Sx.R) : Lx.Tok := L.getD σ.at' ⟨0, 0, 0, []⟩
def Sx.text (L : List Lx.Tok) (σ : Sx.R) : List UInt8 := if (Sx.tk L σ).kind = 3 ∨ (Sx.tk L σ).kind = 4 then (Sx.tk L σ).text else []
def Sx.wrong (L : List Lx.Tok) (e : Int) (σ : Sx.R) : Sx.R := if σ.err = 0 then { σ with err := e, pos := (Sx.tk L σ).pos } else σ
def Sx.eat (L : List Lx.Tok) (s : List UInt8) (σ : Sx.R) : Sx.R := if σ.err ≠ 0 then σ else if Sx.text L σ ≠ s then Sx.wrong L 10 σ else { σ with at' := σ.at' + 1 }
def Sx.sees (L : List Lx.Tok) (s : List UInt8) (σ : Sx.R) : Bool := decide (σ.err = 0) && decide (Sx.text L σ = s)
def Sx.may (L : List Lx.Tok) (s : List UInt8) (σ : Sx.R) : Bool × Sx.R := if Sx.sees L s σ then (true, { σ with at' := σ.at' + 1 }) else (false, σ)
def Sx.nest (L : List Lx.Tok) (s : List UInt8) (σ : Sx.R) : Sx.R :=
  let σ := Sx.eat L s (if Sx.sees L s σ && decide (64 ≤ σ.opn) then Sx.wrong L 11 σ else σ)
  { σ with opn := σ.opn + 1 }
def Sx.unnest (L : List Lx.Tok) (s : List UInt8) (σ : Sx.R) : Sx.R :=
  let σ := Sx.eat L s σ
  { σ with opn := σ.opn - 1 }
def Sx.noTok : Lx.Tok := ⟨0, 0, 0, []⟩
def Sx.some (L : List Lx.Tok) (kind : Int) (σ : Sx.R) : Lx.Tok × Sx.R :=
  if σ.err ≠ 0 then (Sx.noTok, σ) else if (Sx.tk L σ).kind ≠ kind then (Sx.noTok, Sx.wrong L 10 σ) else (Sx.tk L σ, { σ with at' := σ.at' + 1 })
/-! the words and signs, as bytes -/
def Sx.wSec : List UInt8 := [115, 101, 99]
def Sx.wPub : List UInt8 := [112, 117, 98]
def Sx.wOut : List UInt8 := [111, 117, 116]
def Sx.wMask : List UInt8 := [109, 97, 115, 107]
def Sx.wU8 : List UInt8 := [117, 56]
def Sx.wU32 : List UInt8 := [117, 51, 50]
def Sx.wFn : List UInt8 := [102, 110]
def Sx.wLet : List UInt8 := [108, 101, 116]
def Sx.wVar : List UInt8 := [118, 97, 114]
def Sx.wIf : List UInt8 := [105, 102]
def Sx.wElse : List UInt8 := [101, 108, 115, 101]
def Sx.wFor : List UInt8 := [102, 111, 114]
def Sx.wMax : List UInt8 := [109, 97, 120]
def Sx.wRet : List UInt8 := [114, 101, 116, 117, 114, 110]
def Sx.wMulhi : List UInt8 := [109, 117, 108, 104, 105]
def Sx.wCarry : List UInt8 := [99, 97, 114, 114, 121]
def Sx.wSelect : List UInt8 := [115, 101, 108, 101, 99, 116]
def Sx.wWord : List UInt8 := [119, 111, 114, 100]
def Sx.wRor : List UInt8 := [114, 111, 114]
def Sx.label (L : List Lx.Tok) (σ : Sx.R) : Int × Sx.R :=
  if (Sx.may L Sx.wSec σ).1 then (1, (Sx.may L Sx.wSec σ).2) else (0, Sx.eat L Sx.wPub (Sx.may L Sx.wSec σ).2)
/-- the brackets of an array's type, and its number -/
def Sx.brackets (L : List Lx.Tok) (σ : Sx.R) : Int × Sx.R :=
  let σ := Sx.eat L [91] σ
  let σ := if (Sx.tk L σ).num = 0 then Sx.wrong L 10 σ else σ
  let p := Sx.some L 2 σ
  (p.1.num, Sx.eat L [93] p.2)
def Sx.type (L : List Lx.Tok) (scalar : Bool) (label : Int) (σ : Sx.R) : Sx.Ty × Sx.R :=
  if (Sx.may L Sx.wMask σ).1 then (⟨1, 0, label⟩, (Sx.may L Sx.wMask σ).2)
  else
    let σ := (Sx.may L Sx.wMask σ).2
    if !scalar && (Sx.may L Sx.wU8 σ).1 then
      let p := Sx.brackets L (Sx.may L Sx.wU8 σ).2
      (⟨2, p.1, label⟩, p.2)
    else
      let σ := Sx.eat L Sx.wU32 σ
      if !scalar && Sx.sees L [91] σ then
        let p := Sx.brackets L σ
        (⟨0, p.1, label⟩, p.2)
      else (⟨0, 0, label⟩, σ)
def Sx.param (L : List Lx.Tok) (σ : Sx.R) : Sx.Pa × Sx.R :=
  let o := Sx.may L Sx.wOut σ
  let l := Sx.label L o.2
  let n := Sx.some L 1 l.2
  let t := Sx.type L false l.1 (Sx.eat L [58] n.2)
  (⟨n.1.pos, n.1.text, t.1, o.1⟩, t.2)
/-- how tight a sign binds, and its kind -/
def Sx.tights : List (List UInt8 × Nat × Int) :=
  [([61, 61], 1, 17), ([33, 61], 1, 18), ([60], 1, 19), ([60, 61], 1, 20), ([62], 1, 21), ([62, 61], 1, 22), ([124], 2, 12), ([94], 3, 13), ([38], 4, 11), ([60, 60], 5, 14), ([62, 62], 5, 15), ([43], 6, 8), ([45], 6, 9), ([42], 7, 10)]
def Sx.tight (s : List UInt8) : Nat × Int := match Sx.tights.find? (fun x => x.1 == s) with | .some x => x.2 | none => (0, 0)
def Sx.wordsE : List (List UInt8 × Int × Nat) := [(Sx.wMulhi, 23, 2), (Sx.wCarry, 24, 2), (Sx.wSelect, 25, 3), (Sx.wWord, 26, 1), (Sx.wRor, 16, 1)]
def Sx.noE : Sx.E := .mk 0 0 0 [] []
mutual
/-- an expression of signs that bind tighter than a number -/
def Sx.expr (L : List Lx.Tok) : Nat → Nat → Sx.R → Sx.E × Sx.R
  | 0, _, σ => (Sx.noE, σ)
  | f + 1, than, σ =>
    let u := Sx.unary L f σ
    Sx.signs L f than 7 false u.1 u.2
/-- the signs behind an expression -/
def Sx.signs (L : List Lx.Tok) : Nat → Nat → Nat → Bool → Sx.E → Sx.R → Sx.E × Sx.R
  | 0, _, _, _, x, σ => (x, σ)
  | f + 1, than, most, compared, x, σ =>
    if σ.err ≠ 0 then (x, σ)
    else
      let t := Sx.tight (Sx.text L σ)
      if t.1 ≤ than ∨ most < t.1 ∨ (t.1 = 1 ∧ compared = true) then (x, σ)
      else
        let pos : Int := (Sx.tk L σ).pos
        let σ1 : Sx.R := { σ with at' := σ.at' + 1 }
        if t.1 = 5 then
          let n := Sx.some L 2 σ1
          Sx.signs L f than 5 (compared || decide (t.1 = 1)) (.mk t.2 pos n.1.num [] [x]) n.2
        else
          let y := Sx.expr L f t.1 σ1
          Sx.signs L f than t.1 (compared || decide (t.1 = 1)) (.mk t.2 pos 0 [] [x, y.1]) y.2
def Sx.unary (L : List Lx.Tok) : Nat → Sx.R → Sx.E × Sx.R
  | 0, σ => (Sx.noE, σ)
  | f + 1, σ =>
    if σ.err ≠ 0 then (Sx.noE, σ)
    else
      let s := Sx.text L σ
      let pos : Int := (Sx.tk L σ).pos
      if s = [40] then
        let y := Sx.expr L f 0 (Sx.nest L [40] σ)
        (y.1, Sx.unnest L [41] y.2)
      else if s = [126] ∨ s = [45] ∨ s = [33] then
        let y := Sx.unary L f (Sx.nest L s σ)
        (.mk (if s = [126] then 5 else if s = [45] then 6 else 7) pos 0 [] [y.1], { y.2 with opn := y.2.opn - 1 })
      else Sx.word L f s σ
/-- a number, a name, or what a word of the language makes -/
def Sx.word (L : List Lx.Tok) : Nat → List UInt8 → Sx.R → Sx.E × Sx.R
  | 0, _, σ => (Sx.noE, σ)
  | f + 1, s, σ =>
    let t := Sx.tk L σ
    match Sx.wordsE.find? (fun x => x.1 == s) with
    | .some w =>
      let a := Sx.many L f w.2.2 true (Sx.nest L [40] { σ with at' := σ.at' + 1 })
      if s = Sx.wRor then
        let n := Sx.some L 2 (Sx.eat L [44] a.2)
        (.mk w.2.1 t.pos n.1.num [] a.1, Sx.unnest L [41] n.2)
      else (.mk w.2.1 t.pos 0 [] a.1, Sx.unnest L [41] a.2)
    | none =>
      if t.kind = 2 then (.mk 1 t.pos t.num [] [], { σ with at' := σ.at' + 1 })
      else
        let n := Sx.some L 1 σ
        Sx.behind L f n.1 n.2
/-- so many expressions, with a comma ahead of each but the first -/
def Sx.many (L : List Lx.Tok) : Nat → Nat → Bool → Sx.R → List Sx.E × Sx.R
  | 0, _, _, σ => ([], σ)
  | f + 1, 0, _, σ => ([], σ)
  | f + 1, n + 1, first, σ =>
    let x := Sx.expr L f 0 (if first then σ else Sx.eat L [44] σ)
    let r := Sx.many L f n false x.2
    (x.1 :: r.1, r.2)
/-- a name, with what is handed to it, or its index -/
def Sx.behind (L : List Lx.Tok) : Nat → Lx.Tok → Sx.R → Sx.E × Sx.R
  | 0, _, σ => (Sx.noE, σ)
  | f + 1, name, σ =>
    if Sx.sees L [40] σ then
      let σ := Sx.nest L [40] σ
      if Sx.sees L [41] σ then (.mk 4 name.pos 0 name.text [], Sx.unnest L [41] σ)
      else
        let x := Sx.expr L f 0 σ
        let r := Sx.commas L f x.2
        (.mk 4 name.pos 0 name.text (x.1 :: r.1), Sx.unnest L [41] r.2)
    else if Sx.sees L [91] σ then
      let x := Sx.expr L f 0 (Sx.nest L [91] σ)
      (.mk 3 name.pos 0 name.text [x.1], Sx.unnest L [93] x.2)
    else (.mk 2 name.pos 0 name.text [], σ)
/-- expressions, each behind a comma -/
def Sx.commas (L : List Lx.Tok) : Nat → Sx.R → List Sx.E × Sx.R
  | 0, σ => ([], σ)
  | f + 1, σ =>
    if (Sx.may L [44] σ).1 then
      let x := Sx.expr L f 0 (Sx.may L [44] σ).2
      let r := Sx.commas L f x.2
      (x.1 :: r.1, r.2)
    else ([], (Sx.may L [44] σ).2)
end
def Sx.noTy : Sx.Ty := ⟨0, 0, 0⟩
/-- how much fuel serves at a place: each token may be met by each level -/
def Sx.fuel (L : List Lx.Tok) : Nat := 16 * L.length + 16
def Sx.ex (L : List Lx.Tok) (σ : Sx.R) : Sx.E × Sx.R := Sx.expr L (Sx.fuel L) 0 σ
def Sx.value (L : List Lx.Tok) (l : List Sx.E) (σ : Sx.R) : List Sx.E × Sx.R :=
  let x := Sx.ex L σ
  (l ++ [x.1], Sx.eat L [59] x.2)
def Sx.E.args : Sx.E → List Sx.E
  | .mk _ _ _ _ l => l
def Sx.named (L : List Lx.Tok) (pos : Int) (σ : Sx.R) : Sx.S × Sx.R :=
  let n := Sx.some L 1 σ
  if Sx.sees L [40] n.2 then
    let x := Sx.behind L (Sx.fuel L) n.1 n.2
    (.mk 7 pos 0 [] Sx.noTy [x.1] [] [] false, Sx.eat L [59] x.2)
  else if Sx.sees L [91] n.2 then
    let x := Sx.behind L (Sx.fuel L) n.1 n.2
    let v := Sx.value L x.1.args (Sx.eat L [61] x.2)
    (.mk 4 pos 0 n.1.text Sx.noTy v.1 [] [] false, v.2)
  else
    let v := Sx.value L [] (Sx.eat L [61] n.2)
    (.mk 3 pos 0 n.1.text Sx.noTy v.1 [] [] false, v.2)
mutual
def Sx.block (L : List Lx.Tok) : Nat → Sx.R → List Sx.S × Sx.R
  | 0, σ => ([], σ)
  | f + 1, σ =>
    let r := Sx.stmts L f (Sx.nest L [123] σ)
    (r.1, Sx.unnest L [125] r.2)
def Sx.stmts (L : List Lx.Tok) : Nat → Sx.R → List Sx.S × Sx.R
  | 0, σ => ([], σ)
  | f + 1, σ =>
    if decide (σ.err = 0) && !Sx.sees L [125] σ then
      let x := Sx.stmt L f σ
      let r := Sx.stmts L f x.2
      (x.1 :: r.1, r.2)
    else ([], σ)
def Sx.stmt (L : List Lx.Tok) : Nat → Sx.R → Sx.S × Sx.R
  | 0, σ => (.mk 0 0 0 [] Sx.noTy [] [] [] false, σ)
  | f + 1, σ =>
    let pos : Int := (Sx.tk L σ).pos
    if (Sx.may L Sx.wLet σ).1 then
      let n := Sx.some L 1 (Sx.may L Sx.wLet σ).2
      let v := Sx.value L [] (Sx.eat L [61] n.2)
      (.mk 1 pos 0 n.1.text Sx.noTy v.1 [] [] false, v.2)
    else if (Sx.may L Sx.wVar σ).1 then
      let l := Sx.label L (Sx.may L Sx.wVar σ).2
      let n := Sx.some L 1 l.2
      let t := Sx.type L false l.1 (Sx.eat L [58] n.2)
      (.mk 2 pos 0 n.1.text t.1 [] [] [] false, Sx.eat L [59] t.2)
    else if (Sx.may L Sx.wIf σ).1 then
      let c := Sx.ex L (Sx.may L Sx.wIf σ).2
      let b := Sx.block L f c.2
      if (Sx.may L Sx.wElse b.2).1 then
        let e := Sx.block L f (Sx.may L Sx.wElse b.2).2
        (.mk 5 pos 0 [] Sx.noTy [c.1] b.1 e.1 true, e.2)
      else (.mk 5 pos 0 [] Sx.noTy [c.1] b.1 [] false, (Sx.may L Sx.wElse b.2).2)
    else if (Sx.may L Sx.wFor σ).1 then
      let n := Sx.some L 1 (Sx.may L Sx.wFor σ).2
      let c := Sx.ex L (Sx.eat L [60] n.2)
      let m := Sx.some L 2 (Sx.eat L Sx.wMax c.2)
      let b := Sx.block L f m.2
      (.mk 6 pos m.1.num n.1.text Sx.noTy [c.1] b.1 [] false, b.2)
    else if (Sx.may L Sx.wRet σ).1 then
      let v := Sx.value L [] (Sx.may L Sx.wRet σ).2
      (.mk 8 pos 0 [] Sx.noTy v.1 [] [] false, v.2)
    else Sx.named L pos σ
end
def Sx.params (L : List Lx.Tok) : Nat → Sx.R → List Sx.Pa × Sx.R
  | 0, σ => ([], σ)
  | f + 1, σ =>
    if (Sx.may L [44] σ).1 then
      let x := Sx.param L (Sx.may L [44] σ).2
      let r := Sx.params L f x.2
      (x.1 :: r.1, r.2)
    else ([], (Sx.may L [44] σ).2)
/-- parameters, between the parentheses -/
def Sx.plist (L : List Lx.Tok) (σ : Sx.R) : List Sx.Pa × Sx.R :=
  if Sx.sees L [41] σ then ([], σ) else
    let x := Sx.param L σ
    let r := Sx.params L (Sx.fuel L) x.2
    (x.1 :: r.1, r.2)
/-- a result's type, if there is one -/
def Sx.res (L : List Lx.Tok) (c : Bool × Sx.R) : Sx.Ty × Sx.R :=
  if c.1 then
    let l := Sx.label L c.2
    Sx.type L true l.1 l.2
  else (Sx.noTy, c.2)
def Sx.function (L : List Lx.Tok) (σ : Sx.R) : Sx.F × Sx.R :=
  let n := Sx.some L 1 (Sx.eat L Sx.wFn σ)
  let ps := Sx.plist L (Sx.eat L [40] n.2)
  let c := Sx.may L [58] (Sx.eat L [41] ps.2)
  let res := Sx.res L c
  let b := Sx.block L (Sx.fuel L) res.2
  (⟨n.1.pos, n.1.text, ps.1, c.1, res.1, b.1⟩, b.2)
def Sx.functions (L : List Lx.Tok) : Nat → Sx.R → List Sx.F × Sx.R
  | 0, σ => ([], σ)
  | f + 1, σ =>
    if decide (σ.err = 0) && decide ((Sx.tk L σ).kind ≠ 0) then
      let x := Sx.function L σ
      let r := Sx.functions L f x.2
      (x.1 :: r.1, r.2)
    else ([], σ)
def Sx.start : Sx.R := ⟨0, 0, 0, 0⟩
/-- a text as a program, or the error and its place -/
def Sx.parse (s : List UInt8) : Except (Int × Int) (List Sx.F) :=
  match Lx.lex s with
  | .error (e, n) => .error (e, n)
  | .ok L =>
    let r := Sx.functions L (Sx.fuel L) Sx.start
    if r.2.err = 0 then .ok r.1 else .error (r.2.err, r.2.pos)
end Go.Proofs.YtbnhegipdfkdgaaDoor
end
section
set_option linter.unusedVariables false
set_option linter.unusedSimpArgs false
namespace Go.Proofs.YtbnhegipdfkdgaaDoor

/-- what is left behind the first line's end -/
def Lx.aft : List UInt8 → List UInt8
  | [] => []
  | c :: r => if c = 10 then r else Lx.aft r
theorem Lx.aft_le (l : List UInt8) : (Lx.aft l).length ≤ l.length := by
  induction l with
  | nil => exact Nat.le_refl _
  | cons c r ih => rw [Lx.aft]; split <;> simp <;> omega
theorem Lx.ixb (l : List UInt8) : (Lib.indexByte l 10 = -1 ∧ Lx.aft l = []) ∨ ∃ i : Nat, Lib.indexByte l 10 = (i : Int) ∧ i < l.length ∧ Lx.aft l = l.drop (i + 1) := by
  induction l with
  | nil => exact Or.inl ⟨rfl, rfl⟩
  | cons c r ih =>
    by_cases hc : c = 10
    · exact Or.inr ⟨0, by rw [Lib.indexByte, if_pos (by simpa using hc)]; rfl, by simp, by rw [Lx.aft, if_pos hc]; rfl⟩
    · rcases ih with ⟨h1, h2⟩ | ⟨i, h1, h2, h3⟩
      · exact Or.inl ⟨by rw [Lib.indexByte, if_neg (by simpa using hc), h1]; rfl, by rw [Lx.aft, if_neg hc, h2]⟩
      · refine Or.inr ⟨i + 1, ?_, by simpa using h2, by rw [Lx.aft, if_neg hc, h3]; rfl⟩
        rw [Lib.indexByte, if_neg (by simpa using hc), h1, if_neg (by simp; try omega)]; simp
/-- what is left behind blanks and remarks -/
def Lx.left (l : List UInt8) : List UInt8 := l.drop (Lx.skip false l)
theorem Lx.left_rem (l : List UInt8) : l.drop (Lx.skip true l) = Lx.left (Lx.aft l) := by
  induction l with
  | nil => rfl
  | cons c r ih =>
    rw [Lx.skip_rem, List.drop_succ_cons, Lx.aft]
    by_cases hc : c = 10
    · rw [if_pos hc, show decide (c ≠ 10) = false from by simp [hc]]; rfl
    · rw [if_neg hc, show decide (c ≠ 10) = true from by simp [hc], ih]
theorem Lx.left_two (r : List UInt8) : Lx.left (47 :: 47 :: r) = Lx.left (Lx.aft (47 :: 47 :: r)) := by
  rw [Lx.left, Lx.skip_two ⟨rfl, rfl⟩, List.drop_succ_cons, Lx.left_rem]; rfl
theorem Lx.left_trim (l : List UInt8) : Lx.left (l.dropWhile Lx.blank) = Lx.left l := by
  induction l with
  | nil => rfl
  | cons c r ih =>
    rw [List.dropWhile_cons]
    split
    · rename_i hb
      have hn : ¬ (c = 47 ∧ r.head? = some 47) := fun h => by rw [h.1] at hb; exact absurd hb (by decide)
      rw [ih]
      conv => rhs; rw [Lx.left, Lx.skip_blank hn hb, List.drop_succ_cons]
      rfl
    · rfl
theorem Lx.left_stop (l : List UInt8) (hb : ∀ c r, l = c :: r → Lx.blank c = false) (hp : ([47, 47] : List UInt8).isPrefixOf l = false) : Lx.left l = l := by
  cases l with
  | nil => rfl
  | cons c r =>
    rw [Lx.left, Lx.skip_tok (fun h => ?_) (hb c r rfl)]; rfl
    obtain ⟨rfl, h2⟩ := h
    cases r with
    | nil => simp at h2
    | cons d r => simp at h2; subst h2; simp [List.isPrefixOf] at hp
theorem Lx.trim_head (l : List UInt8) : ∀ c r, l.dropWhile Lx.blank = c :: r → Lx.blank c = false := by
  induction l with
  | nil => intro c r h; cases h
  | cons d l ih =>
    intro c r h
    rw [List.dropWhile_cons] at h
    split at h
    · exact ih c r h
    · rename_i hb; cases h; simpa using hb
theorem Lx.pre_two {l : List UInt8} (h : ([47, 47] : List UInt8).isPrefixOf l = true) : ∃ r, l = 47 :: 47 :: r := by
  rcases l with _ | ⟨a, _ | ⟨b, r⟩⟩ <;> simp [List.isPrefixOf] at h
  exact ⟨r, by rw [← h.1, ← h.2]⟩
theorem Lx.trim_le (l : List UInt8) : (l.dropWhile Lx.blank).length ≤ l.length := (List.dropWhile_sublist _).length_le
theorem Lx.left_le (l : List UInt8) : (Lx.left l).length ≤ l.length := by unfold Lx.left; simp
/-- the signs, longer ones ahead -/
def Lx.signs : List (List UInt8) := Lx.twos.map (fun p => [p.1, p.2]) ++ Lx.ones.map (fun c => [c])
def Lx.signIn (L : List (List UInt8)) (l : List UInt8) : List UInt8 := (L.find? fun x => x.isPrefixOf l).getD []
theorem Lx.signs_is (l : List UInt8) : Lx.signIn Lx.signs l = l.take (Lx.sign l) := by
  rcases l with _ | ⟨a, r⟩
  · decide
  · have h1 : ∀ (M : List UInt8) (l : List UInt8), l = a :: r → Lx.signIn (M.map fun c => [c]) l = if M.contains a then [a] else [] := by
      intro M l hl
      subst hl
      unfold Lx.signIn
      induction M with
      | nil => rfl
      | cons c M ih =>
        rw [List.map_cons, List.find?_cons]
        by_cases hc : c = a
        · subst hc; simp [List.isPrefixOf]
        · rw [show ([c] : List UInt8).isPrefixOf (a :: r) = false from by simp [List.isPrefixOf, hc]]
          simp only [ih, List.contains_cons, show (a == c) = false from by simpa using fun h => hc h.symm, Bool.false_or]
    have ha : ∀ (L M : List (List UInt8)) (l : List UInt8), Lx.signIn (L ++ M) l = if (L.find? fun x => x.isPrefixOf l).isSome then Lx.signIn L l else Lx.signIn M l := by
      intro L M l
      unfold Lx.signIn
      rw [List.find?_append]
      cases L.find? fun x => x.isPrefixOf l <;> rfl
    have h2 : ∀ (M : List (UInt8 × UInt8)) (b : UInt8) (r' : List UInt8), ((M.map fun p => [p.1, p.2]).find? fun x => x.isPrefixOf (a :: b :: r')) = if M.contains (a, b) then some [a, b] else none := by
      intro M b r'
      induction M with
      | nil => rfl
      | cons c M ih =>
        rw [List.map_cons, List.find?_cons]
        by_cases hc : c = (a, b)
        · subst hc; simp [List.isPrefixOf]
        · have hp : ([c.1, c.2] : List UInt8).isPrefixOf (a :: b :: r') = false := by
            obtain ⟨x, y⟩ := c
            simp only [List.isPrefixOf, Bool.and_true]
            by_cases hx : x = a
            · subst hx
              have : ¬ y = b := fun h => hc (by rw [h])
              simp [this]
            · simp [hx]
          rw [hp]
          simp only [ih, List.contains_cons, show ((a, b) == c) = false from by simpa using fun h => hc h.symm, Bool.false_or]
    unfold Lx.signs
    rw [ha]
    cases r with
    | nil =>
      have h0 : ((Lx.twos.map fun p => [p.1, p.2]).find? fun x => x.isPrefixOf [a]) = none := by
        rw [List.find?_eq_none]
        intro x hx
        obtain ⟨p, _, rfl⟩ := List.mem_map.1 hx
        simp [List.isPrefixOf]
      rw [h0, h1 _ _ rfl]
      rw [Lx.sign]
      simp only [Option.isSome_none, Bool.false_eq_true, if_false]
      split <;> rfl
    | cons b r =>
      unfold Lx.signIn
      rw [h2]
      rw [Lx.sign]
      by_cases ht : Lx.twos.contains (a, b) = true
      · rw [if_pos ht, if_pos ht]; rfl
      · rw [if_neg ht, if_neg ht]
        have := h1 Lx.ones _ rfl
        unfold Lx.signIn at this
        simp only [Option.isSome_none, Bool.false_eq_true, if_false, this]
        split <;> rfl
end Go.Proofs.YtbnhegipdfkdgaaDoor
end
section
namespace Go.Proofs.YtbnhegipdfkdgaaDoor
open Go.ChangeShapes Go.WideShapes Go.ChangeAt Go.RowKit
set_option linter.unusedVariables false
set_option linter.unusedSimpArgs false

/-- a text of bytes -/
def Lx.S (l : List UInt8) : ByteArray := ⟨l.toArray⟩
theorem Lx.S_list (l : List UInt8) : (Lx.S l).data.toList = l := rfl
theorem Lx.S_of (s : ByteArray) : Lx.S s.data.toList = s := by simp [Lx.S]
theorem Lx.S_size (l : List UInt8) : (Lx.S l).size = l.length := by simp [Lx.S, ByteArray.size]
theorem Lx.S_ext (s : ByteArray) (a b : Nat) : s.extract a b = Lx.S ((s.data.toList.drop a).take (b - a)) := by
  rw [← Lx.S_of s]; exact Lib.extract_mk _ a b
theorem Lx.get (s : ByteArray) (k : Nat) (h : k < s.size) : s.data.toList.drop k = s[k] :: s.data.toList.drop (k + 1) := by
  have h' : k < s.data.toList.length := by rw [← Lib.size_eq]; exact h
  rw [List.drop_eq_getElem_cons h']; rfl
theorem Lx.drop_nil (s : ByteArray) (k : Nat) (h : s.size ≤ k) : s.data.toList.drop k = [] := by
  apply List.drop_of_length_le; rw [← Lib.size_eq]; exact h
theorem ret_bool' {a b : Bool} (h : a = b) : Ending.returned (.bool a) = .returned (.bool b) := by rw [h]
theorem ret_int' {k : IntKind} {a b : Int} (h : a = b) : Ending.returned (.int k a) = .returned (.int k b) := by rw [h]
theorem ret_str' {a b : ByteArray} (h : a = b) : Ending.returned (.string a) = .returned (.string b) := by rw [h]
set_option maxHeartbeats 4000000 in
theorem digit_any (b : UInt8) (w : World) :
    Calls Tryd.prog 24 #[.int .u8 b.toNat] w fun e w' => e = .returned (.bool (Lx.digit b)) ∧ w' = w := by
  have HB := Lib.hid b.toNat_lt
  have HR : Hid (Lx.digit b = (decide (48 ≤ b.toNat) && decide (b.toNat ≤ 57))) := Lib.hid rfl
  generalize Lx.digit b = R at HR ⊢
  generalize b.toNat = n at HB HR ⊢
  have HM := Lib.hid HR
  clear HR
  by_cases h1 : 48 ≤ n
  · by_cases h2 : n ≤ 57
    all_goals
      go_enter Tryd.func24, Tryd.ntmps24
      go_wp2
      go_ret
      refine ⟨ret_bool' ?_, rfl⟩
      rw [HM.out.out, Bool.eq_iff_iff]; simp only [Bool.or_eq_true, Bool.and_eq_true, decide_eq_true_eq, Bool.false_eq_true, beq_iff_eq, true_iff, false_iff]; omega
  · go_enter Tryd.func24, Tryd.ntmps24
    go_wp2
    go_ret
    refine ⟨ret_bool' ?_, rfl⟩
    rw [HM.out.out, Bool.eq_iff_iff]; simp only [Bool.or_eq_true, Bool.and_eq_true, decide_eq_true_eq, Bool.false_eq_true, beq_iff_eq, true_iff, false_iff]; omega
set_option maxHeartbeats 4000000 in
theorem letter_any (b : UInt8) (w : World) :
    Calls Tryd.prog 23 #[.int .u8 b.toNat] w fun e w' => e = .returned (.bool (Lx.letter b)) ∧ w' = w := by
  have HB := Lib.hid b.toNat_lt
  have HR : Hid (Lx.letter b = ((decide (97 ≤ b.toNat) && decide (b.toNat ≤ 122)) || (decide (65 ≤ b.toNat) && decide (b.toNat ≤ 90)) || decide (b.toNat = 95))) := Lib.hid rfl
  generalize Lx.letter b = R at HR ⊢
  generalize b.toNat = n at HB HR ⊢
  have HM := Lib.hid HR
  clear HR
  rcases (by omega : (97 ≤ n ∧ n ≤ 122) ∨ (65 ≤ n ∧ n ≤ 90) ∨ n = 95 ∨ (n < 65 ∧ n ≠ 95) ∨ (91 ≤ n ∧ n ≤ 96 ∧ n ≠ 95) ∨ 123 ≤ n) with h | h | h | h | h | h
  all_goals
    go_enter Tryd.func23, Tryd.ntmps23
    go_wp2
    go_ret
    refine ⟨ret_bool' ?_, rfl⟩
    rw [HM.out.out, Bool.eq_iff_iff]; simp only [Bool.or_eq_true, Bool.and_eq_true, decide_eq_true_eq, Bool.false_eq_true, beq_iff_eq, true_iff, false_iff]; omega
end Go.Proofs.YtbnhegipdfkdgaaDoor
end
