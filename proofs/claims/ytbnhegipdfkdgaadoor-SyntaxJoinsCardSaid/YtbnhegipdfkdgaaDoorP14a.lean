/-
The reader of package syntax as a part: its own cells and the tokens; what its small functions make of it.
Plain mathematics of layer 12, thirteenth part: two texts as one; a text with other tokens behind its error.
-/
import Derived.Test.YtbnhegipdfkdgaaDoorP13a
section
namespace Go.Proofs.YtbnhegipdfkdgaaDoor
open Go.ChangeShapes Go.WideShapes Go.ChangeAt Go.RowKit
set_option linter.unusedVariables false
set_option linter.unusedSimpArgs false

/-- the tokens, as they lie -/
def toksHp (a : Addr) (L : List Lx.Tok) : Hp where
  on w P := P a.block ∧ ∀ k (hk : k < L.length), OnC w (a.add (k * 4)) (tkC L[k])
  loc w w' P h e := ⟨h.1, fun k hk j u hj => by
    have h1 := h.2 k hk j u hj
    rw [World.cell?_of_block (w := w) (w' := w') (by rw [Go.Deep.add_add]; exact e _ (by rw [show (a.add (k * 4 + j)).block = a.block from by unfold Addr.add; split <;> rfl]; exact h.1))]
    exact h1⟩
  wide w P P' h e := ⟨e _ h.1, h.2⟩
/-- which token is at hand: the last one behind an error -/
def Sx.cur (L : List Lx.Tok) (σ : Sx.R) : Nat := if σ.err = 0 then σ.at' else L.length - 1
def Sx.pk (L : List Lx.Tok) (σ : Sx.R) : Lx.Tok := L.getD (Sx.cur L σ) ⟨0, 0, 0, []⟩
def rdC (a : Addr) (cap : Nat) (L : List Lx.Tok) (c : Nat) (m e p : Int) : Array Value := #[.slice (some (a.add (c * 4))) (L.length - c) (cap - c), .int .i64 m, .int .i64 e, .int .i64 p]
/-- a reader in block b, that is in a state -/
structure RdAt (a : Addr) (cap : Nat) (L : List Lx.Tok) (σ : Sx.R) (c : Nat) (m e p : Int) : Prop where
  hcap : L.length ≤ cap
  hbig : L.length < 281474976710656
  hat : σ.at' < L.length
  hc : c = Sx.cur L σ
  he : e = σ.err
  hp : p = σ.pos
  hz : σ.err = 0 → σ.pos = 0
  hm : σ.err = 0 → m = σ.opn ∧ 0 ≤ m ∧ m ≤ 64
def rdHp (b : Nat) (L : List Lx.Tok) (σ : Sx.R) : Hp where
  on w P := ∃ a cap c m e p, RdAt a cap L σ c m e p ∧ Sep w [.row b 50 (rdC a cap L c m e p), .hp (toksHp a L)] P
  loc w w' P h e := by obtain ⟨a, cap, c, m, x, p, h1, h2⟩ := h; exact ⟨a, cap, c, m, x, p, h1, h2.loc e⟩
  wide w P P' h e := by obtain ⟨a, cap, c, m, x, p, h1, h2⟩ := h; exact ⟨a, cap, c, m, x, p, h1, h2.wide e⟩
abbrev rd (b : Nat) (L : List Lx.Tok) (σ : Sx.R) : It := .hp (rdHp b L σ)
theorem rd_open {w : World} {b : Nat} {L : List Lx.Tok} {σ : Sx.R} {I : List It} {P : Nat → Prop} (h : Sep w (rd b L σ :: I) P) : ∃ a cap c m e p, RdAt a cap L σ c m e p ∧ Sep w (.row b 50 (rdC a cap L c m e p) :: .hp (toksHp a L) :: I) P := by
  obtain ⟨A, B, h1, h2, h3, ⟨a, cap, c, m, e, p, hr, hs⟩, h5⟩ := h
  exact ⟨a, cap, c, m, e, p, hr, Sep.cat hs h5 h1 h2 h3⟩
theorem rd_close {w : World} {b : Nat} {L : List Lx.Tok} {σ : Sx.R} {I : List It} {a : Addr} {cap c : Nat} {m e p : Int} {P : Nat → Prop} (hr : RdAt a cap L σ c m e p) (h : Sep w (.row b 50 (rdC a cap L c m e p) :: .hp (toksHp a L) :: I) P) : Sep w (rd b L σ :: I) P := by
  obtain ⟨A, B, h1, h2, h3, h4, h5⟩ := Sep.parts (I := [.row b 50 (rdC a cap L c m e p), .hp (toksHp a L)]) (J := I) h
  exact ⟨A, B, h1, h2, h3, ⟨a, cap, c, m, e, p, hr, h4⟩, h5⟩
theorem St.rdOpen {X : Nat → Prop} {w0 w : World} {b : Nat} {L : List Lx.Tok} {σ : Sx.R} {I : List It} (h : St X w0 w (rd b L σ :: I)) : ∃ a cap c m e p, RdAt a cap L σ c m e p ∧ St X w0 w (.row b 50 (rdC a cap L c m e p) :: .hp (toksHp a L) :: I) := by
  obtain ⟨a, cap, c, m, e, p, hr, hs⟩ := rd_open h.sep
  exact ⟨a, cap, c, m, e, p, hr, h.gd, h.rest, hs⟩
theorem St.rdClose {X : Nat → Prop} {w0 w : World} {b : Nat} {L : List Lx.Tok} {σ : Sx.R} {I : List It} {a : Addr} {cap c : Nat} {m e p : Int} (hr : RdAt a cap L σ c m e p) (h : St X w0 w (.row b 50 (rdC a cap L c m e p) :: .hp (toksHp a L) :: I)) : St X w0 w (rd b L σ :: I) := ⟨h.gd, h.rest, rd_close hr h.sep⟩
theorem cur_lt {L : List Lx.Tok} {σ : Sx.R} (h : σ.at' < L.length) : Sx.cur L σ < L.length := by unfold Sx.cur; split <;> omega
theorem tokZ : Zero 59 (tkA 0 0 0 ⟨#[]⟩) := by unfold Zero; kernel_rfl
theorem readT : StructT 50 4 := ⟨⟨_, Tryd.underlying50⟩, by kernel_rfl⟩
theorem intO : One 3 := ⟨fun w => by unfold isAgg; rw [Sem.run_bind, run_underlying Tryd.underlying3 w]; rfl, by kernel_rfl⟩
theorem strO : One 9 := ⟨fun w => by unfold isAgg; rw [Sem.run_bind, run_underlying Tryd.underlying9 w]; rfl, by kernel_rfl⟩
theorem boolO : One 4 := ⟨fun w => by unfold isAgg; rw [Sem.run_bind, run_underlying Tryd.underlying4 w]; rfl, by kernel_rfl⟩
theorem toksO : One 45 := ⟨fun w => by unfold isAgg; rw [Sem.run_bind, run_underlying Tryd.underlying45 w]; rfl, by kernel_rfl⟩
theorem errO : One 26 := ⟨fun w => by unfold isAgg; rw [Sem.run_bind, run_underlying Tryd.underlying26 w]; rfl, by kernel_rfl⟩
theorem exprsO : One 40 := ⟨fun w => by unfold isAgg; rw [Sem.run_bind, run_underlying Tryd.underlying40 w]; rfl, by kernel_rfl⟩
theorem stmtsO : One 35 := ⟨fun w => by unfold isAgg; rw [Sem.run_bind, run_underlying Tryd.underlying35 w]; rfl, by kernel_rfl⟩
theorem paramsO : One 32 := ⟨fun w => by unfold isAgg; rw [Sem.run_bind, run_underlying Tryd.underlying32 w]; rfl, by kernel_rfl⟩
theorem funcsO : One 23 := ⟨fun w => by unfold isAgg; rw [Sem.run_bind, run_underlying Tryd.underlying23 w]; rfl, by kernel_rfl⟩
theorem ptrO : One 48 := ⟨fun w => by unfold isAgg; rw [Sem.run_bind, run_underlying Tryd.underlying48 w]; rfl, by kernel_rfl⟩
/-- the token at hand, where it lies -/
theorem toks_at {w : World} {a : Addr} {L : List Lx.Tok} {P : Nat → Prop} (h : (toksHp a L).on w P) {σ : Sx.R} (hi : σ.at' < L.length) : OnC w (a.add (Sx.cur L σ * 4)) (tkC (Sx.pk L σ)) := by
  have hl := cur_lt hi
  have he : Sx.pk L σ = L[Sx.cur L σ] := by unfold Sx.pk; rw [List.getD_eq_getElem?_getD, List.getElem?_eq_getElem hl]; rfl
  rw [he]; exact h.2 _ hl
theorem tokF0 (x0 x1 x2 x3 : Value) (w : World) : (Instr.field 59 (.agg #[x0, x1, x2, x3]) 0).run Tryd.prog w = .ok x0 w := by kernel_rfl
theorem tokF1 (x0 x1 x2 x3 : Value) (w : World) : (Instr.field 59 (.agg #[x0, x1, x2, x3]) 1).run Tryd.prog w = .ok x1 w := by kernel_rfl
theorem tokF2 (x0 x1 x2 x3 : Value) (w : World) : (Instr.field 59 (.agg #[x0, x1, x2, x3]) 2).run Tryd.prog w = .ok x2 w := by kernel_rfl
theorem tokF3 (x0 x1 x2 x3 : Value) (w : World) : (Instr.field 59 (.agg #[x0, x1, x2, x3]) 3).run Tryd.prog w = .ok x3 w := by kernel_rfl
/-- a token, loaded -/
theorem wpl_tok {ops : Array Oper} {rest : List Oper} {o : Oper} {a : Act} {w : World} {Q : Exit → Act → World → Prop} {p : Addr} {x : Lx.Tok} (h : OnC w p (tkC x)) (ho : ldOf a o = some (59, .pointer (some p)))
    (k : wpList Tryd.prog ops Q rest (a.put o.dst (.agg (tkA x.kind x.pos x.num (Lx.S x.text)))) w) : wpList Tryd.prog ops Q (o :: rest) a w := by
  obtain ⟨hg, y, ho, hx⟩ := ldOf_eq ho
  refine wpList_plain hg fun K hK => ?_
  obtain ⟨fs, hu⟩ := tokT.und
  have hl := run_loadCells_list (P := Tryd.prog) w p (tkC x) h
  have hr : (loadVar 59 p).run Tryd.prog w = .ok (.agg (tkA x.kind x.pos x.num (Lx.S x.text))) w := by
    have hi := tokT.info
    cases hq : Tryd.prog.info? 59 with
    | none => rw [hq] at hi; cases hi
    | some i =>
      have hs : i.size = 4 := by rw [hq] at hi; simpa using hi
      have hagg : (isAgg 59).run Tryd.prog w = .ok true w := by
        unfold isAgg
        rw [Sem.run_bind, run_underlying hu w]
        rfl
      have hl' : (loadCells p 4).run Tryd.prog w = .ok (tkA x.kind x.pos x.num (Lx.S x.text)) w := hl
      simp [loadVar, Sem.run_bind, hagg, sizeOf, typeInfo, hq, hs, hl']
  unfold Oper.wp execOp
  simp only [ho, hx, Instr.loadAt, Instr.sureAddr, Sem.run_bind, Sem.run_pure, Result.andThen_ok, hr]
  exact hK _ _ k
set_option maxHeartbeats 4000000 in
set_option maxRecDepth 100000 in
theorem next_fn (b : Nat) (L : List Lx.Tok) (σ : Sx.R) : Fn 17 #[.pointer (some ⟨b, 0, none⟩)] [rd b L σ]
    fun e J => e = .returned (.agg #[.int .i64 (Sx.pk L σ).kind, .int .i64 (Sx.pk L σ).pos, .int .i64 (Sx.pk L σ).num, .string (Lx.S (Sx.pk L σ).text)]) ∧ J = [rd b L σ] := by
  intro w P hP hs
  obtain ⟨a, cap, c, m, e, p, hr, hs1⟩ := (St.start hP hs).rdOpen
  have HS := Lib.hid hs1
  have hcl := cur_lt hr.hat
  have hc := hr.hc
  have hn : 0 < L.length - c := by omega
  have HR := Lib.hid hr
  clear hr hs1 hs hP
  go_enter Tryd.func17, Tryd.ntmps17
  go_wp2_with (first
    | (refine wpl_alloc HS.out _ rfl tokZ ?_; intro b1 w1 HS1; have HK := Lib.hid (toks_at ((HS1.out.sep.pick 2 rfl).choose_spec.choose_spec.2.2.2.1) HR.out.hat))
    | (refine wpl_load HS1.out 0 rfl rfl toksO rfl ?_)
    | (refine wpl_tok HK.out rfl ?_)
    | (refine wpl_storeS HS1.out 1 rfl rfl tokT rfl (fitsT _ _ _ _) ?_; intro w2 HS2))
  try simp only [Exit.inBlock, Exit.then]
  refine bp_cell HS2.out 1 tokT rfl rfl rfl rfl rfl ⟨_, ⟨rfl, rfl⟩, (HS2.out.sel [0, 1] rfl).rdClose HR.out⟩
/-- an error as a value, within the reader -/
theorem wpl_loadBad {ops : Array Oper} {rest : List Oper} {o : Oper} {a : Act} {w w0 : World} {X : Nat → Prop} {I : List It} {Q : Exit → Act → World → Prop} {ad : Addr} {cap c b : Nat} {L : List Lx.Tok} {m e p : Int} (h : St X w0 w I) (i : Nat) (ho : ldOf a o = some (28, .pointer (some ⟨b, 2, none⟩)))
    (hI : I[i]? = some (.row b 50 (rdC ad cap L c m e p))) (k : wpList Tryd.prog ops Q rest (a.put o.dst (.agg (bdA e p))) w) : wpList Tryd.prog ops Q (o :: rest) a w := by
  obtain ⟨hg, x, ho, hx⟩ := ldOf_eq ho
  obtain ⟨fs, hu⟩ := badT.und
  refine wpList_load_mid hg _ x ho b 2 hx [.int .i64 e, .int .i64 p] _ (fun j v hj => ?_) hu rfl (by rw [badT.info]; rfl) k
  rw [h.cell i hI]
  rcases j with _ | _ | j <;> simp [rdC] at hj ⊢ <;> exact hj
theorem wpl_storeBad {ops : Array Oper} {rest : List Oper} {o : Oper} {a : Act} {w w0 : World} {X : Nat → Prop} {I : List It} {Q : Exit → Act → World → Prop} {ad : Addr} {cap c b : Nat} {L : List Lx.Tok} {m e p : Int} (h : St X w0 w I) (i : Nat) (e' p' : Int) (ho : stOf a o = some (28, .pointer (some ⟨b, 2, none⟩), .agg (bdA e' p')))
    (hI : I[i]? = some (.row b 50 (rdC ad cap L c m e p))) (k : ∀ w', Hid (St X w0 w' (I.set i (.row b 50 (rdC ad cap L c m e' p')))) → wpList Tryd.prog ops Q rest (a.put o.dst undef) w') : wpList Tryd.prog ops Q (o :: rest) a w := by
  obtain ⟨hg, x, y, ho, hx, hy⟩ := stOf_eq ho
  refine wpList_store_mid hg _ x y ho b 2 (bdA e' p') hx hy (fun j hj => ⟨?_, h.open i hI _⟩) (by rw [badT.info]; rfl) (by simp [Value.oneCell']) (k _ (Lib.hid ?_))
  · rw [h.cell i hI]
    have : j < 2 := hj
    rcases (show j = 0 ∨ j = 1 by omega) with rfl | rfl <;> rfl
  · have h1 := h.setCell i hI 2 (.int .i64 e')
    have hI' : (I.set i (.row b 50 ((rdC ad cap L c m e p).setIfInBounds 2 (.int .i64 e'))))[i]? = some (.row b 50 ((rdC ad cap L c m e p).setIfInBounds 2 (.int .i64 e'))) := by
      rw [List.getElem?_set_self]
      exact (List.getElem?_eq_some_iff.1 hI).1
    have h2 := h1.setCell i hI' 3 (.int .i64 p')
    rw [List.set_set] at h2
    exact h2
theorem bad_zero (e p : Int) (h : e = 0 → p = 0) (w : World) : (Op.equalIn 10000 28 (.agg #[.int .i64 e, .int .i64 p]) (.agg #[.int .i64 0, .int .i64 0])).run Tryd.prog w = .ok (decide (e = 0)) w := by
  have h1 := bad_eq e p 0 0 w
  have h2 : (e == 0 && p == 0) = decide (e = 0) := by
    by_cases he : e = 0
    · rw [he, h he]; rfl
    · have : (e == 0) = false := by simpa using he
      rw [this, decide_eq_false he]; rfl
  rw [h2] at h1
  exact h1
set_option maxHeartbeats 4000000 in
set_option maxRecDepth 100000 in
theorem failed_fn (b : Nat) (L : List Lx.Tok) (σ : Sx.R) : Fn 11 #[.pointer (some ⟨b, 0, none⟩)] [rd b L σ]
    fun e J => e = .returned (.bool (decide (σ.err ≠ 0))) ∧ J = [rd b L σ] := by
  intro w P hP hs
  obtain ⟨a, cap, c, m, e, p, hr, hs1⟩ := (St.start hP hs).rdOpen
  have HS := Lib.hid hs1
  have E1 : ∀ w, (Op.equalIn 10000 28 (.agg #[.int .i64 e, .int .i64 p]) (.agg #[.int .i64 0, .int .i64 0])).run Tryd.prog w = .ok (decide (e = 0)) w := fun w => bad_zero e p (fun h => by rw [hr.hp]; exact hr.hz (hr.he ▸ h)) w
  have hd : decide (σ.err ≠ 0) = !decide (e = 0) := by rw [hr.he]; by_cases h : σ.err = 0 <;> simp [h]
  have HR := Lib.hid hr
  have HD := Lib.hid hd
  clear hr hs1 hs hP hd
  go_enter Tryd.func11, Tryd.ntmps11
  go_wp2_with (first
    | (refine wpl_loadBad HS.out 0 rfl rfl ?_))
  go_ret
  exact ⟨_, ⟨by rw [HD.out]; rfl, rfl⟩, (HS.out.sel [0, 0] rfl).rdClose HR.out⟩
end Go.Proofs.YtbnhegipdfkdgaaDoor
end
section
set_option linter.unusedVariables false
set_option linter.unusedSimpArgs false
namespace Go.Proofs.YtbnhegipdfkdgaaDoor

theorem Sx.whole_lex {s : List UInt8} {L : List Lx.Tok} (h : Lx.lex s = .ok L) : ∃ A, Sx.Whole A L ∧ L = A ++ [⟨0, s.length, 0, []⟩] := by
  unfold Lx.lex at h
  split at h
  · cases h
  · cases e : Lx.toks (s.length + 1) 0 s with
    | error q => rw [e] at h; cases h
    | ok us =>
      rw [e] at h
      cases h
      obtain ⟨hg, _⟩ := Lx.toks_where (s.length + 1) 0 s s us (Nat.zero_le _) (by simp) e
      refine ⟨us, ⟨fun x hx => ?_, _, rfl, rfl⟩, rfl⟩
      have := (hg x hx).1.1.1
      omega
/-- two texts with a line's end between have the functions of both -/
theorem Sx.parse_joins {s t : List UInt8} {a b : List Sx.F} (hs : s.length ≤ 20000) (ht : t.length ≤ 20000) (h1 : Sx.parse s = .ok a) (h2 : Sx.parse t = .ok b) :
    Sx.parse (s ++ 10 :: t) = .ok (a ++ b.map (Sx.F.on (s.length + 1))) := by
  have hj := Lx.lex_joins s t hs ht
  unfold Sx.parse at h1 h2 ⊢
  cases eL : Lx.lex s with
  | error e => rw [eL] at h1; cases h1
  | ok L =>
    rw [eL] at h1 hj
    cases eK : Lx.lex t with
    | error e => rw [eK] at h2; cases h2
    | ok K =>
      rw [eK] at h2 hj
      obtain ⟨us, hu, hJ⟩ := hj
      simp only [] at h1 h2 hJ
      rw [hJ]
      simp only []
      split at h1
      · rename_i e1
        split at h2
        · rename_i e2
          cases h1; cases h2
          obtain ⟨A, hW, hA⟩ := Sx.whole_lex eL
          have hAu : A = us := by rw [hA] at hu; exact List.append_cancel_right hu
          have hK := Sx.ends_lex eK
          obtain ⟨r1, r2⟩ := Sx.joins (d := s.length + 1) hW hK.1 (Sx.ends_lex hJ).1 hK.2 (by rw [hAu]) e1 e2
          rw [if_pos r2, r1]
        · cases h2
      · cases h1
end Go.Proofs.YtbnhegipdfkdgaaDoor
end
