/-
Parse: what it makes of any text.
-/
import Derived.Test.YtbnhegipdfkdgaaDoorP36a
import Derived.Test.YtbnhegipdfkdgaaDoorP35a
namespace Go.Proofs.YtbnhegipdfkdgaaDoor
open Go.ChangeShapes Go.WideShapes Go.ChangeAt Go.RowKit
set_option linter.unusedVariables false
set_option linter.unusedSimpArgs false

/-! ### what lex tells of tokens -/
theorem Lx.run_letter {c : UInt8} {r : List UInt8} (h : Lx.letter c = true) : Lx.run (c :: r) = c :: Lx.run r := Lx.run_cons (by unfold Lx.wordy; rw [h]; rfl)
def Lx.cln (x : Lx.Tok) : Prop := (x.kind = 1 → (∃ c r, x.text = c :: r ∧ Lx.letter c = true) ∧ Lx.words.contains x.text = false) ∧ (x.kind = 2 ∨ x.kind = 0 → x.text = []) ∧ (x.kind = 0 ∨ x.kind = 1 ∨ x.kind = 2 ∨ x.kind = 3 ∨ x.kind = 4)
theorem Lx.one_cln (p : Nat) : ∀ l : List UInt8, Lx.cln (Lx.one p l).1
  | [] => ⟨fun h => absurd h (show ¬ (0 : Int) = 1 by decide), fun _ => rfl, Or.inl rfl⟩
  | c :: r => by
    unfold Lx.one
    simp only []
    split
    · rename_i hl
      rw [Lx.run_letter hl]
      split
      · exact ⟨fun h => absurd h (show ¬ (3 : Int) = 1 by decide), fun h => absurd h (show ¬ ((3 : Int) = 2 ∨ (3 : Int) = 0) by decide), Or.inr (Or.inr (Or.inr (Or.inl rfl)))⟩
      · rename_i hw
        exact ⟨fun _ => ⟨⟨c, _, rfl, hl⟩, by simpa using hw⟩, fun h => absurd h (show ¬ ((1 : Int) = 2 ∨ (1 : Int) = 0) by decide), Or.inr (Or.inl rfl)⟩
    · split
      · exact ⟨fun h => absurd h (show ¬ (2 : Int) = 1 by decide), fun _ => rfl, Or.inr (Or.inr (Or.inl rfl))⟩
      · exact ⟨fun h => absurd h (show ¬ (4 : Int) = 1 by decide), fun h => absurd h (show ¬ ((4 : Int) = 2 ∨ (4 : Int) = 0) by decide), Or.inr (Or.inr (Or.inr (Or.inr rfl)))⟩
theorem Lx.toks_cln (f : Nat) : ∀ (p : Nat) (l : List UInt8) (ts : List Lx.Tok), Lx.toks f p l = .ok ts → (∀ x ∈ ts, Lx.cln x) ∧ ts.length ≤ l.length := by
  induction f with
  | zero => intro p l ts h; rw [Lx.toks] at h; cases h
  | succ f ih =>
    intro p l ts h
    rw [Lx.toks] at h
    split at h
    · cases h; exact ⟨fun x hx => absurd hx List.not_mem_nil, Nat.zero_le _⟩
    · split at h
      · cases h
      · rename_i h1 h2
        generalize hr : Lx.toks f (p + Lx.skip false l + (Lx.one (p + Lx.skip false l) (l.drop (Lx.skip false l))).2) ((l.drop (Lx.skip false l)).drop (Lx.one (p + Lx.skip false l) (l.drop (Lx.skip false l))).2) = rr at h
        cases rr with
        | error q => cases h
        | ok us =>
          cases h
          obtain ⟨h3, h4⟩ := ih _ _ _ hr
          refine ⟨fun x hx => ?_, ?_⟩
          · rcases List.mem_cons.1 hx with rfl | hx
            · exact Lx.one_cln _ _
            · exact h3 x hx
          · have h5 := Lx.one_le (p + Lx.skip false l) (l.drop (Lx.skip false l))
            rw [List.length_drop, List.length_drop] at h4
            rw [List.length_drop] at h5
            rw [List.length_cons]
            omega
theorem Lx.lex_ok' {s : List UInt8} {L : List Lx.Tok} (h : Lx.lex s = .ok L) : Sx.Ok L := by
  refine ⟨(Sx.ends_lex h).1, ?_, ?_⟩
  · unfold Lx.lex at h
    split at h
    · cases h
    · generalize hr : Lx.toks (s.length + 1) 0 s = rr at h
      cases rr with
      | error q => cases h
      | ok ts =>
        cases h
        intro x hx
        rcases List.mem_append.1 hx with hx | hx
        · exact (Lx.toks_cln _ _ _ _ hr).1 x hx
        · rw [List.mem_singleton] at hx
          subst hx
          exact ⟨fun h => absurd h (show ¬ (0 : Int) = 1 by decide), fun _ => rfl, Or.inl rfl⟩
  · unfold Lx.lex at h
    split at h
    · cases h
    · generalize hr : Lx.toks (s.length + 1) 0 s = rr at h
      cases rr with
      | error q => cases h
      | ok ts =>
        cases h
        have := (Lx.toks_cln _ _ _ _ hr).2
        rw [List.length_append, List.length_singleton]; omega
/-! ### the tokens as a part -/
theorem St.below {X : Nat → Prop} {w0 w w' : World} {I : List It} (h : St X w0 w I) (hb : Below w.heap.size w w') : St X w0 w' I :=
  ⟨h.gd, ⟨hb.os.trans h.rest.os, hb.tape.trans h.rest.tape, hb.output.trans h.rest.output, Nat.le_trans h.rest.size hb.size, fun k hk hx => (hb.block k (Nat.lt_of_lt_of_le hk h.rest.size)).trans (h.rest.block k hk hx)⟩,
    (h.sep.loc fun k hk => hb.block k hk.1).wide fun k hk => ⟨Nat.lt_of_lt_of_le hk.1 hb.size, hk.2⟩⟩
theorem St.lexed {X : Nat → Prop} {w0 w w' : World} {I : List It} {v : Value} {L : List Lx.Tok} (h : St X w0 w I) (hb : Below w.heap.size w w') (hL : 0 < L.length) (ho : w'.ownsRow w.heap.size 59 4 v L.length (L.flatMap tkC)) : ∃ a cap, v = .slice (some a) L.length cap ∧ L.length ≤ cap ∧ St X w0 w' (.hp (toksHp a L) :: I) := by
  have hs := sliceC_own tkC_len ho
  rcases ho.2 with ⟨rfl, h0⟩ | ⟨g, cap, cur, rfl, h1, h2, h3, h4⟩
  · omega
  · obtain ⟨p, cap', hv, hk⟩ := hs
    cases hv
    refine ⟨⟨g, 0, none⟩, cap, rfl, h3, h.gd, (h.below hb).rest, ?_⟩
    refine Sep.cons (A := fun k => k = g) ⟨rfl, fun k hk' => ?_⟩ (h.sep.loc fun k hk => hb.block k hk.1) ?_ ?_ ?_
    · obtain ⟨a, ha, hc⟩ := hk k hk'
      cases ha
      exact hc
    · rintro k rfl
      exact ⟨(Array.getElem?_eq_some_iff.1 h2).1, Or.inr (Nat.le_trans h.rest.size h1)⟩
    · exact fun k hk => ⟨Nat.lt_of_lt_of_le hk.1 hb.size, hk.2⟩
    · rintro k rfl hk
      exact absurd hk.1 (Nat.not_lt_of_le h1)
theorem yieldsIf_loadC {ops : Array Oper} {S : World → Prop} {o : Oper} {a : Act} {t : TypeId} {n : Nat} {p : Addr} {vs : List Value} (hw : Region.wanted o (yielded ops a.tmps) = true) (ho : ldOf a o = some (t, .pointer (some p))) (T : StructT t n) (hn : vs.length = n) (hS : ∀ w, S w → OnC w p vs) : YieldsIf Tryd.prog ops S o (.agg vs.toArray) a := by
  obtain ⟨hg, y, ho, hx⟩ := ldOf_eq ho
  obtain ⟨fs, hu⟩ := T.und
  refine Or.inl ⟨hw, fun w h => ?_⟩
  have hl := run_loadCells_list (P := Tryd.prog) w p vs (hS w h)
  have hr : (loadVar t p).run Tryd.prog w = .ok (.agg vs.toArray) w := by
    have hi := T.info
    cases hq : Tryd.prog.info? t with
    | none => rw [hq] at hi; cases hi
    | some i =>
      have hs : i.size = vs.length := by rw [hq] at hi; simpa [hn] using hi
      have hagg : (isAgg t).run Tryd.prog w = .ok true w := by
        unfold isAgg
        rw [Sem.run_bind, run_underlying hu w]
        rfl
      simp [loadVar, Sem.run_bind, hagg, sizeOf, typeInfo, hq, hs, hl]
  unfold execOp
  simp only [ho, hx, Instr.loadAt, Instr.sureAddr, Sem.run_bind, Sem.run_pure, Result.andThen_ok, hr]
/-- what Parse tells -/
def PR (w w' : World) (r : Except (Int × Int) (List Sx.F)) (v : Value) (x p : Int) : Prop :=
  match r with
  | .error (e, n) => v = .slice none 0 0 ∧ x = e ∧ p = n
  | .ok fs => x = 0 ∧ p = 0 ∧ (fsI v fs).on w' fun k => w.heap.size ≤ k ∧ k < w'.heap.size
theorem below_of {w w' : World} {I : List It} (h : St (fun _ => False) w w' I) : Below w.heap.size w w' := ⟨h.rest.os, h.rest.tape, h.rest.output, h.rest.size, fun k hk => h.rest.block k hk (fun h => h)⟩
theorem bdZ : Zero 28 (bdA 0 0) := by unfold Zero; kernel_rfl
theorem wpl_alloc_at {ops : Array Oper} {rest : List Oper} {o : Oper} {a : Act} {w w0 : World} {X : Nat → Prop} {x : It} {I : List It} {Q : Exit → Act → World → Prop} {t : TypeId} (h : St X w0 w (x :: I)) (zc : Array Value) (ho : alOf o = some t) (hz : Zero t zc)
    (k : ∀ (b : Nat) (w' : World), Hid (St X w0 w' (x :: .row b t zc :: I)) → wpList Tryd.prog ops Q rest (a.put o.dst (.pointer (some ⟨b, 0, none⟩))) w') : wpList Tryd.prog ops Q (o :: rest) a w := wpl_alloc h zc ho hz k
set_option maxHeartbeats 8000000 in
set_option maxRecDepth 100000 in
theorem parse_lexbad (s : ByteArray) (hs : s.size ≤ 281474976710656) (w : World) (hT : TabAt w) (er : Int) (n : Nat) (her : er ≠ 0) (hl : Lx.lex s.data.toList = .error (er, n)) : Calls Tryd.prog 7 #[.string s] w fun e w' => ∃ (q : Option Addr) (l c : Nat) (x p : Int), e = .returned (.tuple #[.agg #[.slice q l c], .agg (bdA x p)]) ∧ PR w w' (Sx.parse s.data.toList) (.slice q l c) x p ∧ Below w.heap.size w w' := by
  have HS := Lib.hid (St.start (X := fun _ => False) (I := []) ⟨fun _ h => h.elim, fun h => h, hT⟩ trivial)
  have C1 := Lib.hid fun w => lex_own s hs w
  have hp : Sx.parse s.data.toList = .error (er, n) := by unfold Sx.parse; rw [hl]
  rw [hp]
  have HLX := Lib.hid hl
  have E1 : ∀ w, (Op.equalIn 10000 28 (.agg #[.int .i64 er, .int .i64 n]) (.agg #[.int .i64 0, .int .i64 0])).run Tryd.prog w = .ok false w := fun w => by
    rw [bad_eq er n 0 0 w]
    have : (er == 0) = false := by simpa using her
    rw [this]; rfl
  clear hl hp hT hs her
  go_enter Tryd.func7, Tryd.ntmps7
  go_wp2_with (first
    | (first | (refine wpl_alloc0 HS.out _ rfl pgZ ?_; intro b1 w1 HS1; clear HS) | (refine wpl_alloc HS1.out _ rfl bdZ ?_; intro b2 w2 HS2; clear HS1) | (refine wpl_alloc HS3.out _ rfl bdZ ?_; intro b4 w4 HS4; clear HS3))
    | (go_at_call 9; refine (C1.out _).mono ?_; rintro e w3 ⟨v, x, p, rfl, hlx, hb⟩; rw [HLX.out] at hlx; obtain ⟨rfl, hxe, rfl⟩ := hlx; obtain rfl := hxe.symm; have HS3 := Lib.hid (HS2.out.below hb); clear hb HS2)
    | (refine wpl_storeS HS4.out 1 rfl rfl badT rfl (fitsB _ _) ?_; intro w5 hs; have HS5 := Lib.hid (show St _ _ _ (_ :: _ :: _ :: []) from hs.out); clear hs HS4)
    | (refine wpl_loadS HS5.out 1 rfl rfl badT rfl ?_))
  refine wp_region_held_drew (S := fun w' => w'.heap[b4]? = some (.cells (bdA er n) 28 (0, 0)) ∧ True) (by kernel_rfl) (⟨HS5.out.drew.row 1 rfl, trivial⟩) (fun hHeld => ?_)
  refine wpAnyH_take (i := 0) (v := ?_) rfl (by kernel_rfl) (by kernel_rfl) (by kernel_rfl) (fun _ _ _ h => h) (Or.inl ⟨by rfl, ?_⟩) (by assumption) ?_
  rotate_left
  · intro w hSw
    (try dsimp only at hSw)
    go_simp
    (try with_reducible rfl)
  (try simp only [Act.put, List.setIfInBounds_toArray, List.set_cons_zero, List.set_cons_succ, List.getElem_toArray, List.getElem_cons_succ, List.getElem_cons_zero])
  refine wpAnyH_take (i := 1) (v := _) rfl (by kernel_rfl) (by kernel_rfl) (by kernel_rfl) (fun _ _ _ h => h) (yieldsIf_loadS (by rfl) rfl badT rfl (fun _ h => h.1)) (by assumption) ?_
  (try simp only [Act.put, List.setIfInBounds_toArray, List.set_cons_zero, List.set_cons_succ, List.getElem_toArray, List.getElem_cons_succ, List.getElem_cons_zero])
  refine wpAnyH_ready (rs := [2]) (by kernel_rfl) (by simp) ?_
  refine AllReadyH.cons rfl (fun K hK => ?_) AllReadyH.nil
  (refine wp_storeS HS5.out.drew 0 ⟨rfl, rfl⟩ rfl pgT rfl fitsG ?_; intro w6 hs; have HS6 := Lib.hid (show St _ _ _ (_ :: _ :: _ :: []) from hs.out); clear hs)
  refine hK.out _ _ (⟨HS6.out.row 1 rfl, trivial⟩) (fun hHeld => ?_)
  clear hK K
  (try simp only [Act.put, List.setIfInBounds_toArray, List.set_cons_zero, List.set_cons_succ, List.getElem_toArray, List.getElem_cons_succ, List.getElem_cons_zero])
  refine wpAnyH_ready (rs := [3]) (by kernel_rfl) (by simp) ?_
  refine AllReadyH.cons rfl (fun K hK => ?_) AllReadyH.nil
  (refine wp_storeS HS6.out 2 ⟨rfl, rfl⟩ rfl badT rfl (fitsB _ _) ?_; intro w7 hs; have HS7 := Lib.hid (show St _ _ _ (_ :: _ :: _ :: []) from hs.out); clear hs)
  refine hK.out _ _ (⟨HS7.out.row 1 rfl, trivial⟩) (fun hHeld => ?_)
  clear hK K
  (try simp only [Act.put, List.setIfInBounds_toArray, List.set_cons_zero, List.set_cons_succ, List.getElem_toArray, List.getElem_cons_succ, List.getElem_cons_zero])
  refine wpAnyH_done (by kernel_rfl) ?_ _
  try go_wp2
  exact bp_cells HS7.out 0 2 pgT badT rfl rfl rfl rfl rfl rfl rfl rfl ⟨_, _, _, _, _, rfl, ⟨rfl, rfl, rfl⟩, below_of HS7.out⟩
theorem rdC_0 (a : Addr) (cap : Nat) (L : List Lx.Tok) : rdC a cap L 0 0 0 0 = #[.slice (some a) L.length cap, .int .i64 0, .int .i64 0, .int .i64 0] := by
  unfold rdC
  rw [show a.add (0 * 4) = a from by rw [Nat.zero_mul]; exact Addr.add_zero' a, Nat.sub_zero, Nat.sub_zero]
theorem rd_start (a : Addr) (cap : Nat) (L : List Lx.Tok) (hL : Sx.Ok L) (h0 : 0 < L.length) (hc : L.length ≤ cap) : RdAt a cap L Sx.start 0 0 0 0 :=
  ⟨hc, by have := hL.len; omega, h0, rfl, rfl, rfl, fun _ => rfl, fun _ => ⟨rfl, by decide, by decide⟩⟩
theorem St.rd0 {X : Nat → Prop} {w0 w : World} {b : Nat} {a : Addr} {cap : Nat} {L : List Lx.Tok} {I : List It} (hL : Sx.Ok L) (h0 : 0 < L.length) (hc : L.length ≤ cap) (h : St X w0 w (.row b 50 #[.slice (some a) L.length cap, .int .i64 0, .int .i64 0, .int .i64 0] :: .hp (toksHp a L) :: I)) : St X w0 w (rd b L Sx.start :: I) :=
  St.rdClose (rd_start a cap L hL h0 hc) (by rw [rdC_0]; exact h)
set_option maxHeartbeats 8000000 in
set_option maxRecDepth 100000 in
theorem parse_good (s : ByteArray) (hs : s.size ≤ 281474976710656) (w : World) (hT : TabAt w) (L : List Lx.Tok) (hl : Lx.lex s.data.toList = .ok L) (hz : (Sx.Fs L Sx.start).2.err = 0) : Calls Tryd.prog 7 #[.string s] w fun e w' => ∃ (q : Option Addr) (l c : Nat) (x p : Int), e = .returned (.tuple #[.agg #[.slice q l c], .agg (bdA x p)]) ∧ PR w w' (Sx.parse s.data.toList) (.slice q l c) x p ∧ Below w.heap.size w w' := by
  have HS := Lib.hid (St.start (X := fun _ => False) (I := []) ⟨fun _ h => h.elim, fun h => h, hT⟩ trivial)
  have C1 := Lib.hid fun w => lex_own s hs w
  obtain ⟨hok, hlen⟩ : Sx.Ok L ∧ 0 < L.length := ⟨Lx.lex_ok' hl, (Sx.ends_lex hl).2⟩
  have CP := Lib.hid (fun b => program_fn b L hok Sx.start rfl)
  have CF := Lib.hid (fun b => failed_fn b L (Sx.Fs L Sx.start).2)
  have HLX := Lib.hid hl
  have HOK := Lib.hid (And.intro hok hlen)
  have E1 : ∀ w, (Op.equalIn 10000 28 (.agg #[.int .i64 0, .int .i64 0]) (.agg #[.int .i64 0, .int .i64 0])).run Tryd.prog w = .ok true w := fun w => bad_eq 0 0 0 0 w
  have hp : Sx.parse s.data.toList = .ok (Sx.Fs L Sx.start).1 := by unfold Sx.parse; rw [hl]; show (if (Sx.Fs L Sx.start).2.err = 0 then _ else _) = _; rw [if_pos hz]; rfl
  rw [hp]
  rw [decide_eq_false (p := (Sx.Fs L Sx.start).2.err ≠ 0) (by simpa using hz)] at CF
  have HZ := Lib.hid hz
  clear hl hp hT hs hok hlen hz
  go_enter Tryd.func7, Tryd.ntmps7
  go_wp2_with (first
    | (first | (refine wpl_alloc0 HS.out _ rfl pgZ ?_; intro b1 w1 HS1; clear HS) | (refine wpl_alloc HS1.out _ rfl bdZ ?_; intro b2 w2 HS2; clear HS1) | (refine wpl_alloc HS3.out _ rfl bdZ ?_; intro b4 w4 HS4; clear HS3) | (refine wpl_alloc HS10.out _ rfl pgZ ?_; intro b11 w11 HS11; clear HS10))
    | (go_at_call 9; refine (C1.out _).mono ?_; rintro e w3 ⟨v, x, p, rfl, hlx, hb⟩; rw [HLX.out] at hlx; obtain ⟨rfl, rfl, ho⟩ := hlx; obtain ⟨ad, cap, rfl, hcap, hs3⟩ := HS2.out.lexed hb HOK.out.2 ho; have HS3 := Lib.hid hs3; have HC := Lib.hid hcap; clear hb HS2 hs3 ho hcap)
    | (first | (refine wpl_storeS HS4.out 1 rfl rfl badT rfl (fitsB _ _) ?_; intro w5 hs; have HS5 := Lib.hid (show St _ _ _ (_ :: _ :: _ :: _ :: []) from hs.out); clear hs HS4) | (refine wpl_storeS HS11.out 1 rfl rfl pgT rfl fitsG ?_; intro w12 hs; have HS12 := Lib.hid (show St _ _ _ (_ :: _ :: _ :: _ :: _ :: _ :: []) from hs.out); clear hs HS11) | (refine wpl_storeS HS13.out 4 rfl rfl pgT rfl fitsG ?_; intro w14 hs; have HS14 := Lib.hid (show St _ _ _ (_ :: _ :: _ :: _ :: _ :: _ :: []) from hs.out); clear hs HS13) | (refine wpl_storeS HS14.out 5 rfl rfl badT rfl (fitsB _ _) ?_; intro w15 hs; have HS15 := Lib.hid (show St _ _ _ (_ :: _ :: _ :: _ :: _ :: _ :: []) from hs.out); clear hs HS14))
    | (first | (refine wpl_loadS HS5.out 1 rfl rfl badT rfl ?_) | (refine wpl_loadS HS13.out 1 rfl rfl pgT rfl ?_))
    | (refine wpl_box HS5.out rfl rfl ?_; intro b6 w6 hs; have HS6 := Lib.hid (St.rd0 HOK.out.1 HOK.out.2 HC.out (hs.out.sel [1, 0, 0, 0, 0] rfl)); clear hs HS5)
    | (go_at_call 10; refine (HS6.out.call1 (CP.out b6)).mono ?_; rintro e w10 ⟨J, ⟨q2, l2, c2, fs, rfl, rfl, hx⟩, hs⟩; simp only [List.cons_append, List.nil_append] at hs; have HX := Lib.hid hx; have HS10 := Lib.hid hs; clear hs hx HS6)
    | (go_at_call 11; refine (HS12.out.call1 (CF.out b6)).mono ?_; rintro e w13 ⟨J, ⟨rfl, rfl⟩, hs⟩; simp only [List.cons_append, List.nil_append] at hs; have HS13 := Lib.hid hs; clear hs HS12))
  refine bp_cells HS15.out 4 5 pgT badT rfl rfl rfl rfl rfl rfl rfl rfl ⟨_, _, _, _, _, rfl, ⟨rfl, rfl, ?_⟩, below_of HS15.out⟩
  rw [HX.out HZ.out]
  obtain ⟨A, B, h1, h2, h3, h4, h5⟩ := (St.sel HS15.out [2] rfl).sep
  exact (fsI _ fs).wide h4 fun k hk => ⟨(h1 k hk).2.resolve_left (fun h => h), (h1 k hk).1⟩
set_option maxHeartbeats 8000000 in
set_option maxRecDepth 100000 in
theorem parse_bad (s : ByteArray) (hs : s.size ≤ 281474976710656) (w : World) (hT : TabAt w) (L : List Lx.Tok) (hl : Lx.lex s.data.toList = .ok L) (hz : (Sx.Fs L Sx.start).2.err ≠ 0) : Calls Tryd.prog 7 #[.string s] w fun e w' => ∃ (q : Option Addr) (l c : Nat) (x p : Int), e = .returned (.tuple #[.agg #[.slice q l c], .agg (bdA x p)]) ∧ PR w w' (Sx.parse s.data.toList) (.slice q l c) x p ∧ Below w.heap.size w w' := by
  have HS := Lib.hid (St.start (X := fun _ => False) (I := []) ⟨fun _ h => h.elim, fun h => h, hT⟩ trivial)
  have C1 := Lib.hid fun w => lex_own s hs w
  obtain ⟨hok, hlen⟩ : Sx.Ok L ∧ 0 < L.length := ⟨Lx.lex_ok' hl, (Sx.ends_lex hl).2⟩
  have CP := Lib.hid (fun b => program_fn b L hok Sx.start rfl)
  have CF := Lib.hid (fun b => failed_fn b L (Sx.Fs L Sx.start).2)
  have HLX := Lib.hid hl
  have HOK := Lib.hid (And.intro hok hlen)
  have E1 : ∀ w, (Op.equalIn 10000 28 (.agg #[.int .i64 0, .int .i64 0]) (.agg #[.int .i64 0, .int .i64 0])).run Tryd.prog w = .ok true w := fun w => bad_eq 0 0 0 0 w
  have hp : Sx.parse s.data.toList = .error ((Sx.Fs L Sx.start).2.err, (Sx.Fs L Sx.start).2.pos) := by unfold Sx.parse; rw [hl]; show (if (Sx.Fs L Sx.start).2.err = 0 then _ else _) = _; rw [if_neg hz]; rfl
  rw [hp]
  rw [decide_eq_true (p := (Sx.Fs L Sx.start).2.err ≠ 0) hz] at CF
  clear hl hp hT hs hok hlen hz
  go_enter Tryd.func7, Tryd.ntmps7
  go_wp2_with (first
    | (first | (refine wpl_alloc0 HS.out _ rfl pgZ ?_; intro b1 w1 HS1; clear HS) | (refine wpl_alloc HS1.out _ rfl bdZ ?_; intro b2 w2 HS2; clear HS1) | (refine wpl_alloc HS3.out _ rfl bdZ ?_; intro b4 w4 HS4; clear HS3) | (refine wpl_alloc HS10.out _ rfl pgZ ?_; intro b11 w11 HS11; clear HS10))
    | (go_at_call 9; refine (C1.out _).mono ?_; rintro e w3 ⟨v, x, p, rfl, hlx, hb⟩; rw [HLX.out] at hlx; obtain ⟨rfl, rfl, ho⟩ := hlx; obtain ⟨ad, cap, rfl, hcap, hs3⟩ := HS2.out.lexed hb HOK.out.2 ho; have HS3 := Lib.hid hs3; have HC := Lib.hid hcap; clear hb HS2 hs3 ho hcap)
    | (first | (refine wpl_storeS HS4.out 1 rfl rfl badT rfl (fitsB _ _) ?_; intro w5 hs; have HS5 := Lib.hid (show St _ _ _ (_ :: _ :: _ :: _ :: []) from hs.out); clear hs HS4) | (refine wpl_storeS HS11.out 1 rfl rfl pgT rfl fitsG ?_; intro w12 hs; have HS12 := Lib.hid (show St _ _ _ (_ :: _ :: _ :: _ :: _ :: _ :: []) from hs.out); clear hs HS11) | (refine wpl_storeS HS13.out 4 rfl rfl pgT rfl fitsG ?_; intro w14 hs; have HS14 := Lib.hid (show St _ _ _ (_ :: _ :: _ :: _ :: _ :: _ :: []) from hs.out); clear hs HS13) | (refine wpl_storeS HS14.out 5 rfl rfl badT rfl (fitsB _ _) ?_; intro w15 hs; have HS15 := Lib.hid (show St _ _ _ (_ :: _ :: _ :: _ :: _ :: _ :: []) from hs.out); clear hs HS14))
    | (refine wpl_box HS5.out rfl rfl ?_; intro b6 w6 hs; have HS6 := Lib.hid (St.rd0 HOK.out.1 HOK.out.2 HC.out (hs.out.sel [1, 0, 0, 0, 0] rfl)); clear hs HS5)
    | (go_at_call 10; refine (HS6.out.call1 (CP.out b6)).mono ?_; rintro e w10 ⟨J, ⟨q2, l2, c2, fs, rfl, rfl, hx⟩, hs⟩; simp only [List.cons_append, List.nil_append] at hs; have HX := Lib.hid hx; have HS10 := Lib.hid hs; clear hs hx HS6)
    | (go_at_call 11; refine (HS12.out.call1 (CF.out b6)).mono ?_; rintro e w13 ⟨J, ⟨rfl, rfl⟩, hs⟩; simp only [List.cons_append, List.nil_append] at hs; have HS13 := Lib.hid hs; clear hs HS12)
    | (refine wpl_loadS HS5.out 1 rfl rfl badT rfl ?_))
  obtain ⟨a2, cap2, c9, m2, e2, pp2, hr, hs3⟩ := HS13.out.rdOpen
  have HR2 := Lib.hid hr
  have HO2 := Lib.hid hs3
  clear hs3 hr
  have hon : ∀ {w' : World} {I : List It}, St (fun _ => False) w w' (.row b6 50 (rdC a2 cap2 L c9 m2 e2 pp2) :: I) → OnC w' ⟨b6, 2, none⟩ [.int .i64 e2, .int .i64 pp2] := fun h j u hj => by
    have h2 : (⟨b6, 2, none⟩ : Addr).add j = ⟨b6, 2 + j, none⟩ := by unfold Addr.add; split <;> simp_all
    rw [h2, h.cell 0 rfl]
    rcases j with _ | _ | j
    · exact hj
    · exact hj
    · cases hj
  refine wp_region_held_drew (S := fun w' => OnC w' ⟨b6, 2, none⟩ [.int .i64 e2, .int .i64 pp2]) (by kernel_rfl) (hon HO2.out.drew) (fun hHeld => ?_)
  refine wpAnyH_take (i := 0) (v := ?_) rfl (by kernel_rfl) (by kernel_rfl) (by kernel_rfl) (fun _ _ _ h => h) (Or.inl ⟨by rfl, ?_⟩) (by assumption) ?_
  rotate_left
  · intro w hSw
    (try dsimp only at hSw)
    go_simp
    (try with_reducible rfl)
  (try simp only [Act.put, List.setIfInBounds_toArray, List.set_cons_zero, List.set_cons_succ, List.getElem_toArray, List.getElem_cons_succ, List.getElem_cons_zero])
  refine wpAnyH_take (i := 1) (v := ?_) rfl (by kernel_rfl) (by kernel_rfl) (by kernel_rfl) (fun _ _ _ h => h) (Or.inl ⟨by rfl, ?_⟩) (by assumption) ?_
  rotate_left
  · intro w hSw
    (try dsimp only at hSw)
    go_simp
    (try with_reducible rfl)
  (try simp only [Act.put, List.setIfInBounds_toArray, List.set_cons_zero, List.set_cons_succ, List.getElem_toArray, List.getElem_cons_succ, List.getElem_cons_zero])
  refine wpAnyH_take (i := 2) (v := ?_) rfl (by kernel_rfl) (by kernel_rfl) (by kernel_rfl) (fun _ _ _ h => h) (Or.inl ⟨by rfl, ?_⟩) (by assumption) ?_
  rotate_left
  · intro w hSw
    (try dsimp only at hSw)
    go_simp
    (try with_reducible rfl)
  (try simp only [Act.put, List.setIfInBounds_toArray, List.set_cons_zero, List.set_cons_succ, List.getElem_toArray, List.getElem_cons_succ, List.getElem_cons_zero])
  refine wpAnyH_take (i := 3) (v := ?_) rfl (by kernel_rfl) (by kernel_rfl) (by kernel_rfl) (fun _ _ _ h => h) (Or.inl ⟨by rfl, ?_⟩) (by assumption) ?_
  rotate_left
  · intro w hSw
    (try dsimp only at hSw)
    go_simp
    (try with_reducible rfl)
  (try simp only [Act.put, List.setIfInBounds_toArray, List.set_cons_zero, List.set_cons_succ, List.getElem_toArray, List.getElem_cons_succ, List.getElem_cons_zero])
  refine wpAnyH_take (i := 4) (v := _) rfl (by kernel_rfl) (by kernel_rfl) (by kernel_rfl) (fun _ _ _ h => h) (yieldsIf_loadC (by rfl) rfl badT rfl (fun _ h => h)) (by assumption) ?_
  (try simp only [Act.put, List.setIfInBounds_toArray, List.set_cons_zero, List.set_cons_succ, List.getElem_toArray, List.getElem_cons_succ, List.getElem_cons_zero])
  refine wpAnyH_ready (rs := [5]) (by kernel_rfl) (by simp) ?_
  refine AllReadyH.cons rfl (fun K hK => ?_) AllReadyH.nil
  (refine wp_storeS HO2.out.drew 5 ⟨rfl, rfl⟩ rfl pgT rfl fitsG ?_; intro w14 hs; have HS14 := Lib.hid (show St _ _ _ (_ :: _ :: _ :: _ :: _ :: _ :: _ :: []) from hs.out); clear hs)
  refine hK.out _ _ (hon HS14.out) (fun hHeld => ?_)
  clear hK K
  (try simp only [Act.put, List.setIfInBounds_toArray, List.set_cons_zero, List.set_cons_succ, List.getElem_toArray, List.getElem_cons_succ, List.getElem_cons_zero])
  refine wpAnyH_ready (rs := [6]) (by kernel_rfl) (by simp) ?_
  refine AllReadyH.cons rfl (fun K hK => ?_) AllReadyH.nil
  (refine wp_storeS HS14.out 6 ⟨rfl, rfl⟩ rfl badT rfl (fitsB _ _) ?_; intro w15 hs; have HS15 := Lib.hid (show St _ _ _ (_ :: _ :: _ :: _ :: _ :: _ :: _ :: []) from hs.out); clear hs)
  refine hK.out _ _ (hon HS15.out) (fun hHeld => ?_)
  clear hK K
  (try simp only [Act.put, List.setIfInBounds_toArray, List.set_cons_zero, List.set_cons_succ, List.getElem_toArray, List.getElem_cons_succ, List.getElem_cons_zero])
  refine wpAnyH_done (by kernel_rfl) ?_ _
  try go_wp2
  refine bp_cells HS15.out 5 6 pgT badT rfl rfl rfl rfl rfl rfl rfl rfl ⟨_, _, _, _, _, rfl, ⟨rfl, HR2.out.he, HR2.out.hp⟩, below_of HS15.out⟩
theorem Lx.lex_err {s : List UInt8} {er : Int} {n : Nat} (h : Lx.lex s = .error (er, n)) : er ≠ 0 := by
  unfold Lx.lex at h
  split at h
  · cases h; decide
  · split at h <;> cases h
    decide
/-- what the program's Parse tells of any text -/
theorem parse_any (s : ByteArray) (hs : s.size ≤ 281474976710656) (w : World) (hT : TabAt w) : Calls Tryd.prog 7 #[.string s] w fun e w' => ∃ (q : Option Addr) (l c : Nat) (x p : Int), e = .returned (.tuple #[.agg #[.slice q l c], .agg (bdA x p)]) ∧ PR w w' (Sx.parse s.data.toList) (.slice q l c) x p ∧ Below w.heap.size w w' := by
  cases hl : Lx.lex s.data.toList with
  | error q => exact parse_lexbad s hs w hT q.1 q.2 (Lx.lex_err hl) hl
  | ok L =>
    by_cases hz : (Sx.Fs L Sx.start).2.err = 0
    · exact parse_good s hs w hT L hl hz
    · exact parse_bad s hs w hT L hl hz
theorem TabAt.below {w w' : World} (h : TabAt w) (hb : Below w.heap.size w w') : TabAt w' := fun j v hj => by
  have h1 := h j v hj
  rw [World.cell?_of_block (w := w) (hb.block _ (cell_lt h1))]
  exact h1
end Go.Proofs.YtbnhegipdfkdgaaDoor
