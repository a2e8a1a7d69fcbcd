/-
Parse: what it makes of any text.
Parse as a function on parts; the law's examples.
-/
import Derived.Test.YtjfdcnggnldgdaaGreatDoorP24a
import Derived.Test.YtjfdcnggnldgdaaGreatDoorP37b
section
namespace Go.Proofs.YtjfdcnggnldgdaaGreatDoor
open Go.ChangeShapes Go.WideShapes Go.ChangeAt Go.RowKit
set_option linter.unusedVariables false
set_option linter.unusedSimpArgs false

theorem Lx.run_letter {c : UInt8} {r : List UInt8} (h : Lx.letter c = true) : Lx.run (c :: r) = c :: Lx.run r := Lx.run_cons (by unfold Lx.wordy; rw [h]; rfl)
def Lx.cln (x : Lx.Tok) : Prop := (x.kind = 1 → (∃ c r, x.text = c :: r ∧ Lx.letter c = true) ∧ Lx.words.contains x.text = false) ∧ (x.kind = 2 ∨ x.kind = 0 → x.text = []) ∧ (x.kind = 0 ∨ x.kind = 1 ∨ x.kind = 2 ∨ x.kind = 3 ∨ x.kind = 4)
theorem Lx.one_cln (p : Nat) : ∀ l : List UInt8, Lx.cln (Lx.one p l).1
  | [] => ⟨fun h => absurd h (show ¬ (0 : Int) = 1 by decide), fun _ => rfl, Or.inl rfl⟩
  | c :: r => by
    unfold Lx.one
    simp only []
    split
    · rename_i hl
      rw [Lx.run_letter hl]
      split
      · exact ⟨fun h => absurd h (show ¬ (3 : Int) = 1 by decide), fun h => absurd h (show ¬ ((3 : Int) = 2 ∨ (3 : Int) = 0) by decide), Or.inr (Or.inr (Or.inr (Or.inl rfl)))⟩
      · rename_i hw
        exact ⟨fun _ => ⟨⟨c, _, rfl, hl⟩, by simpa using hw⟩, fun h => absurd h (show ¬ ((1 : Int) = 2 ∨ (1 : Int) = 0) by decide), Or.inr (Or.inl rfl)⟩
    · split
      · exact ⟨fun h => absurd h (show ¬ (2 : Int) = 1 by decide), fun _ => rfl, Or.inr (Or.inr (Or.inl rfl))⟩
      · exact ⟨fun h => absurd h (show ¬ (4 : Int) = 1 by decide), fun h => absurd h (show ¬ ((4 : Int) = 2 ∨ (4 : Int) = 0) by decide), Or.inr (Or.inr (Or.inr (Or.inr rfl)))⟩
theorem Lx.toks_cln (f : Nat) : ∀ (p : Nat) (l : List UInt8) (ts : List Lx.Tok), Lx.toks f p l = .ok ts → (∀ x ∈ ts, Lx.cln x) ∧ ts.length ≤ l.length := by
  induction f with
  | zero => intro p l ts h; rw [Lx.toks] at h; cases h
  | succ f ih =>
    intro p l ts h
    rw [Lx.toks] at h
    split at h
    · cases h; exact ⟨fun x hx => absurd hx List.not_mem_nil, Nat.zero_le _⟩
    · split at h
      · cases h
      · rename_i h1 h2
        generalize hr : Lx.toks f (p + Lx.skip false l + (Lx.one (p + Lx.skip false l) (l.drop (Lx.skip false l))).2) ((l.drop (Lx.skip false l)).drop (Lx.one (p + Lx.skip false l) (l.drop (Lx.skip false l))).2) = rr at h
        cases rr with
        | error q => cases h
        | ok us =>
          cases h
          obtain ⟨h3, h4⟩ := ih _ _ _ hr
          refine ⟨fun x hx => ?_, ?_⟩
          · rcases List.mem_cons.1 hx with rfl | hx
            · exact Lx.one_cln _ _
            · exact h3 x hx
          · have h5 := Lx.one_le (p + Lx.skip false l) (l.drop (Lx.skip false l))
            rw [List.length_drop, List.length_drop] at h4
            rw [List.length_drop] at h5
            rw [List.length_cons]
            omega
theorem Lx.lex_ok' {s : List UInt8} {L : List Lx.Tok} (h : Lx.lex s = .ok L) : Sx.Ok L := by
  refine ⟨(Sx.ends_lex h).1, ?_, ?_⟩
  · unfold Lx.lex at h
    split at h
    · cases h
    · generalize hr : Lx.toks (s.length + 1) 0 s = rr at h
      cases rr with
      | error q => cases h
      | ok ts =>
        cases h
        intro x hx
        rcases List.mem_append.1 hx with hx | hx
        · exact (Lx.toks_cln _ _ _ _ hr).1 x hx
        · rw [List.mem_singleton] at hx
          subst hx
          exact ⟨fun h => absurd h (show ¬ (0 : Int) = 1 by decide), fun _ => rfl, Or.inl rfl⟩
  · unfold Lx.lex at h
    split at h
    · cases h
    · generalize hr : Lx.toks (s.length + 1) 0 s = rr at h
      cases rr with
      | error q => cases h
      | ok ts =>
        cases h
        have := (Lx.toks_cln _ _ _ _ hr).2
        rw [List.length_append, List.length_singleton]; omega
theorem St.below {X : Nat → Prop} {w0 w w' : World} {I : List It} (h : St X w0 w I) (hb : Below w.heap.size w w') : St X w0 w' I :=
  ⟨h.gd, ⟨hb.os.trans h.rest.os, hb.tape.trans h.rest.tape, hb.output.trans h.rest.output, Nat.le_trans h.rest.size hb.size, fun k hk hx => (hb.block k (Nat.lt_of_lt_of_le hk h.rest.size)).trans (h.rest.block k hk hx)⟩,
    (h.sep.loc fun k hk => hb.block k hk.1).wide fun k hk => ⟨Nat.lt_of_lt_of_le hk.1 hb.size, hk.2⟩⟩
theorem St.lexed {X : Nat → Prop} {w0 w w' : World} {I : List It} {v : Value} {L : List Lx.Tok} (h : St X w0 w I) (hb : Below w.heap.size w w') (hL : 0 < L.length) (ho : w'.ownsRow w.heap.size 77 4 v L.length (L.flatMap tkC)) : ∃ a cap, v = .slice (some a) L.length cap ∧ L.length ≤ cap ∧ St X w0 w' (.hp (toksHp a L) :: I) := by
  have hs := sliceC_own tkC_len ho
  rcases ho.2 with ⟨rfl, h0⟩ | ⟨g, cap, cur, rfl, h1, h2, h3, h4⟩
  · omega
  · obtain ⟨p, cap', hv, hk⟩ := hs
    cases hv
    refine ⟨⟨g, 0, none⟩, cap, rfl, h3, h.gd, (h.below hb).rest, ?_⟩
    refine Sep.cons (A := fun k => k = g) ⟨rfl, fun k hk' => ?_⟩ (h.sep.loc fun k hk => hb.block k hk.1) ?_ ?_ ?_
    · obtain ⟨a, ha, hc⟩ := hk k hk'
      cases ha
      exact hc
    · rintro k rfl
      exact ⟨(Array.getElem?_eq_some_iff.1 h2).1, Or.inr (Nat.le_trans h.rest.size h1)⟩
    · exact fun k hk => ⟨Nat.lt_of_lt_of_le hk.1 hb.size, hk.2⟩
    · rintro k rfl hk
      exact absurd hk.1 (Nat.not_lt_of_le h1)
theorem yieldsIf_loadC {ops : Array Oper} {S : World → Prop} {o : Oper} {a : Act} {t : TypeId} {n : Nat} {p : Addr} {vs : List Value} (hw : Region.wanted o (yielded ops a.tmps) = true) (ho : ldOf a o = some (t, .pointer (some p))) (T : StructT t n) (hn : vs.length = n) (hS : ∀ w, S w → OnC w p vs) : YieldsIf Tryz.prog ops S o (.agg vs.toArray) a := by
  obtain ⟨hg, y, ho, hx⟩ := ldOf_eq ho
  obtain ⟨fs, hu⟩ := T.und
  refine Or.inl ⟨hw, fun w h => ?_⟩
  have hl := run_loadCells_list (P := Tryz.prog) w p vs (hS w h)
  have hr : (loadVar t p).run Tryz.prog w = .ok (.agg vs.toArray) w := by
    have hi := T.info
    cases hq : Tryz.prog.info? t with
    | none => rw [hq] at hi; cases hi
    | some i =>
      have hs : i.size = vs.length := by rw [hq] at hi; simpa [hn] using hi
      have hagg : (isAgg t).run Tryz.prog w = .ok true w := by
        unfold isAgg
        rw [Sem.run_bind, run_underlying hu w]
        rfl
      simp [loadVar, Sem.run_bind, hagg, sizeOf, typeInfo, hq, hs, hl]
  unfold execOp
  simp only [ho, hx, Instr.loadAt, Instr.sureAddr, Sem.run_bind, Sem.run_pure, Result.andThen_ok, hr]
/-- what Parse tells -/
def PR (w w' : World) (r : Except (Int × Int) (List Sx.F)) (v : Value) (x p : Int) : Prop :=
  match r with
  | .error (e, n) => v = .slice none 0 0 ∧ x = e ∧ p = n
  | .ok fs => x = 0 ∧ p = 0 ∧ (fsI v fs).on w' fun k => w.heap.size ≤ k ∧ k < w'.heap.size
theorem below_of {w w' : World} {I : List It} (h : St (fun _ => False) w w' I) : Below w.heap.size w w' := ⟨h.rest.os, h.rest.tape, h.rest.output, h.rest.size, fun k hk => h.rest.block k hk (fun h => h)⟩
theorem bdZ : Zero 27 (bdA 0 0) := by unfold Zero; kernel_rfl
set_option maxHeartbeats 8000000 in
set_option maxRecDepth 100000 in
theorem parse_lexbad (s : ByteArray) (hs : s.size ≤ 281474976710656) (w : World) (hT : TabAt w) (er : Int) (n : Nat) (her : er ≠ 0) (hl : Lx.lex s.data.toList = .error (er, n)) : Calls Tryz.prog 12 #[.string s] w fun e w' => ∃ (q : Option Addr) (l c : Nat) (x p : Int), e = .returned (.tuple #[.agg #[.slice q l c], .agg (bdA x p)]) ∧ PR w w' (Sx.parse s.data.toList) (.slice q l c) x p ∧ Below w.heap.size w w' := by
  have HS := Lib.hid (St.start (X := fun _ => False) (I := []) ⟨fun _ h => h.elim, fun h => h, hT⟩ trivial)
  have C1 := Lib.hid fun w => lex_own s hs w
  have hp : Sx.parse s.data.toList = .error (er, n) := by unfold Sx.parse; rw [hl]
  rw [hp]
  have HLX := Lib.hid hl
  have E1 : ∀ w, (Op.equalIn 10000 27 (.agg #[.int .i64 er, .int .i64 n]) (.agg #[.int .i64 0, .int .i64 0])).run Tryz.prog w = .ok false w := fun w => by
    rw [bad_eq er n 0 0 w]
    have : (er == 0) = false := by simpa using her
    rw [this]; rfl
  clear hl hp hT hs her
  go_enter Tryz.func12, Tryz.ntmps12
  go_wp2_with (first
    | (first | (refine wpl_alloc0 HS.out _ rfl pgZ ?_; intro b1 w1 HS1; clear HS) | (refine wpl_alloc HS1.out _ rfl bdZ ?_; intro b2 w2 HS2; clear HS1) | (refine wpl_alloc HS3.out _ rfl bdZ ?_; intro b4 w4 HS4; clear HS3))
    | (go_at_call 30; refine (C1.out _).mono ?_; rintro e w3 ⟨v, x, p, rfl, hlx, hb⟩; rw [HLX.out] at hlx; obtain ⟨rfl, hxe, rfl⟩ := hlx; obtain rfl := hxe.symm; have HS3 := Lib.hid (HS2.out.below hb); clear hb HS2)
    | (refine wpl_storeS HS4.out 1 rfl rfl badT rfl (fitsB _ _) ?_; intro w5 hs; have HS5 := Lib.hid (show St _ _ _ (_ :: _ :: _ :: []) from hs.out); clear hs HS4)
    | (refine wpl_loadS HS5.out 1 rfl rfl badT rfl ?_))
  refine wp_region_held_drew (S := fun w' => w'.heap[b4]? = some (.cells (bdA er n) 27 (0, 0)) ∧ True) (by kernel_rfl) (⟨HS5.out.drew.row 1 rfl, trivial⟩) (fun hHeld => ?_)
  refine tkH 0 ?_
  refine tkY 1 (yieldsIf_loadS (by rfl) rfl badT rfl (fun _ h => h.1)) ?_
  refine wpAnyH_ready (rs := [2]) (by kernel_rfl) (by simp) ?_
  refine AllReadyH.cons rfl (fun K hK => ?_) AllReadyH.nil
  (refine wp_storeS HS5.out.drew 0 ⟨rfl, rfl⟩ rfl pgT rfl fitsG ?_; intro w6 hs; have HS6 := Lib.hid (show St _ _ _ (_ :: _ :: _ :: []) from hs.out); clear hs)
  refine hK.out _ _ (⟨HS6.out.row 1 rfl, trivial⟩) (fun hHeld => ?_)
  clear hK K
  (try simp only [Act.put, List.setIfInBounds_toArray, List.set_cons_zero, List.set_cons_succ, List.getElem_toArray, List.getElem_cons_succ, List.getElem_cons_zero])
  refine wpAnyH_ready (rs := [3]) (by kernel_rfl) (by simp) ?_
  refine AllReadyH.cons rfl (fun K hK => ?_) AllReadyH.nil
  (refine wp_storeS HS6.out 2 ⟨rfl, rfl⟩ rfl badT rfl (fitsB _ _) ?_; intro w7 hs; have HS7 := Lib.hid (show St _ _ _ (_ :: _ :: _ :: []) from hs.out); clear hs)
  refine hK.out _ _ (⟨HS7.out.row 1 rfl, trivial⟩) (fun hHeld => ?_)
  clear hK K
  (try simp only [Act.put, List.setIfInBounds_toArray, List.set_cons_zero, List.set_cons_succ, List.getElem_toArray, List.getElem_cons_succ, List.getElem_cons_zero])
  refine wpAnyH_done (by kernel_rfl) ?_ _
  try go_wp2
  exact bp_cells HS7.out 0 2 pgT badT rfl rfl rfl rfl rfl rfl rfl rfl ⟨_, _, _, _, _, rfl, ⟨rfl, rfl, rfl⟩, below_of HS7.out⟩
theorem rdC_0 (a : Addr) (cap : Nat) (L : List Lx.Tok) : rdC a cap L 0 0 0 0 = #[.slice (some a) L.length cap, .int .i64 0, .int .i64 0, .int .i64 0] := by
  unfold rdC
  rw [show a.add (0 * 4) = a from by rw [Nat.zero_mul]; exact Addr.add_zero' a, Nat.sub_zero, Nat.sub_zero]
theorem rd_start (a : Addr) (cap : Nat) (L : List Lx.Tok) (hL : Sx.Ok L) (h0 : 0 < L.length) (hc : L.length ≤ cap) : RdAt a cap L Sx.start 0 0 0 0 :=
  ⟨hc, by have := hL.len; omega, h0, rfl, rfl, rfl, fun _ => rfl, fun _ => ⟨rfl, by decide, by decide⟩⟩
theorem St.rd0 {X : Nat → Prop} {w0 w : World} {b : Nat} {a : Addr} {cap : Nat} {L : List Lx.Tok} {I : List It} (hL : Sx.Ok L) (h0 : 0 < L.length) (hc : L.length ≤ cap) (h : St X w0 w (.row b 69 #[.slice (some a) L.length cap, .int .i64 0, .int .i64 0, .int .i64 0] :: .hp (toksHp a L) :: I)) : St X w0 w (rd b L Sx.start :: I) :=
  St.rdClose (rd_start a cap L hL h0 hc) (by rw [rdC_0]; exact h)
set_option maxHeartbeats 8000000 in
set_option maxRecDepth 100000 in
theorem parse_good (s : ByteArray) (hs : s.size ≤ 281474976710656) (w : World) (hT : TabAt w) (L : List Lx.Tok) (hl : Lx.lex s.data.toList = .ok L) (hz : (Sx.Fs L Sx.start).2.err = 0) : Calls Tryz.prog 12 #[.string s] w fun e w' => ∃ (q : Option Addr) (l c : Nat) (x p : Int), e = .returned (.tuple #[.agg #[.slice q l c], .agg (bdA x p)]) ∧ PR w w' (Sx.parse s.data.toList) (.slice q l c) x p ∧ Below w.heap.size w w' := by
  have HS := Lib.hid (St.start (X := fun _ => False) (I := []) ⟨fun _ h => h.elim, fun h => h, hT⟩ trivial)
  have C1 := Lib.hid fun w => lex_own s hs w
  obtain ⟨hok, hlen⟩ : Sx.Ok L ∧ 0 < L.length := ⟨Lx.lex_ok' hl, (Sx.ends_lex hl).2⟩
  have CP := Lib.hid (fun b => program_fn b L hok Sx.start rfl)
  have CF := Lib.hid (fun b => failed_fn b L (Sx.Fs L Sx.start).2)
  have HLX := Lib.hid hl
  have HOK := Lib.hid (And.intro hok hlen)
  have E1 : ∀ w, (Op.equalIn 10000 27 (.agg #[.int .i64 0, .int .i64 0]) (.agg #[.int .i64 0, .int .i64 0])).run Tryz.prog w = .ok true w := fun w => bad_eq 0 0 0 0 w
  have hp : Sx.parse s.data.toList = .ok (Sx.Fs L Sx.start).1 := by unfold Sx.parse; rw [hl]; show (if (Sx.Fs L Sx.start).2.err = 0 then _ else _) = _; rw [if_pos hz]; rfl
  rw [hp]
  rw [decide_eq_false (p := (Sx.Fs L Sx.start).2.err ≠ 0) (by simpa using hz)] at CF
  have HZ := Lib.hid hz
  clear hl hp hT hs hok hlen hz
  go_enter Tryz.func12, Tryz.ntmps12
  go_wp2_with (first
    | (first | (refine wpl_alloc0 HS.out _ rfl pgZ ?_; intro b1 w1 HS1; clear HS) | (refine wpl_alloc HS1.out _ rfl bdZ ?_; intro b2 w2 HS2; clear HS1) | (refine wpl_alloc HS3.out _ rfl bdZ ?_; intro b4 w4 HS4; clear HS3) | (refine wpl_alloc HS10.out _ rfl pgZ ?_; intro b11 w11 HS11; clear HS10))
    | (go_at_call 30; refine (C1.out _).mono ?_; rintro e w3 ⟨v, x, p, rfl, hlx, hb⟩; rw [HLX.out] at hlx; obtain ⟨rfl, rfl, ho⟩ := hlx; obtain ⟨ad, cap, rfl, hcap, hs3⟩ := HS2.out.lexed hb HOK.out.2 ho; have HS3 := Lib.hid hs3; have HC := Lib.hid hcap; clear hb HS2 hs3 ho hcap)
    | (first | (refine wpl_storeS HS4.out 1 rfl rfl badT rfl (fitsB _ _) ?_; intro w5 hs; have HS5 := Lib.hid (show St _ _ _ (_ :: _ :: _ :: _ :: []) from hs.out); clear hs HS4) | (refine wpl_storeS HS11.out 1 rfl rfl pgT rfl fitsG ?_; intro w12 hs; have HS12 := Lib.hid (show St _ _ _ (_ :: _ :: _ :: _ :: _ :: _ :: []) from hs.out); clear hs HS11) | (refine wpl_storeS HS13.out 4 rfl rfl pgT rfl fitsG ?_; intro w14 hs; have HS14 := Lib.hid (show St _ _ _ (_ :: _ :: _ :: _ :: _ :: _ :: []) from hs.out); clear hs HS13) | (refine wpl_storeS HS14.out 5 rfl rfl badT rfl (fitsB _ _) ?_; intro w15 hs; have HS15 := Lib.hid (show St _ _ _ (_ :: _ :: _ :: _ :: _ :: _ :: []) from hs.out); clear hs HS14))
    | (first | (refine wpl_loadS HS5.out 1 rfl rfl badT rfl ?_) | (refine wpl_loadS HS13.out 1 rfl rfl pgT rfl ?_))
    | (refine wpl_box HS5.out rfl rfl ?_; intro b6 w6 hs; have HS6 := Lib.hid (St.rd0 HOK.out.1 HOK.out.2 HC.out (hs.out.sel [1, 0, 0, 0, 0] rfl)); clear hs HS5)
    | (go_at_call 31; refine (HS6.out.call1 (CP.out b6)).mono ?_; rintro e w10 ⟨J, ⟨q2, l2, c2, fs, rfl, rfl, hx⟩, hs⟩; simp only [List.cons_append, List.nil_append] at hs; have HX := Lib.hid hx; have HS10 := Lib.hid hs; clear hs hx HS6)
    | (go_at_call 32; refine (HS12.out.call1 (CF.out b6)).mono ?_; rintro e w13 ⟨J, ⟨rfl, rfl⟩, hs⟩; simp only [List.cons_append, List.nil_append] at hs; have HS13 := Lib.hid hs; clear hs HS12))
  refine bp_cells HS15.out 4 5 pgT badT rfl rfl rfl rfl rfl rfl rfl rfl ⟨_, _, _, _, _, rfl, ⟨rfl, rfl, ?_⟩, below_of HS15.out⟩
  rw [HX.out HZ.out]
  obtain ⟨A, B, h1, h2, h3, h4, h5⟩ := (St.sel HS15.out [2] rfl).sep
  exact (fsI _ fs).wide h4 fun k hk => ⟨(h1 k hk).2.resolve_left (fun h => h), (h1 k hk).1⟩
set_option maxHeartbeats 8000000 in
set_option maxRecDepth 100000 in
theorem parse_bad (s : ByteArray) (hs : s.size ≤ 281474976710656) (w : World) (hT : TabAt w) (L : List Lx.Tok) (hl : Lx.lex s.data.toList = .ok L) (hz : (Sx.Fs L Sx.start).2.err ≠ 0) : Calls Tryz.prog 12 #[.string s] w fun e w' => ∃ (q : Option Addr) (l c : Nat) (x p : Int), e = .returned (.tuple #[.agg #[.slice q l c], .agg (bdA x p)]) ∧ PR w w' (Sx.parse s.data.toList) (.slice q l c) x p ∧ Below w.heap.size w w' := by
  have HS := Lib.hid (St.start (X := fun _ => False) (I := []) ⟨fun _ h => h.elim, fun h => h, hT⟩ trivial)
  have C1 := Lib.hid fun w => lex_own s hs w
  obtain ⟨hok, hlen⟩ : Sx.Ok L ∧ 0 < L.length := ⟨Lx.lex_ok' hl, (Sx.ends_lex hl).2⟩
  have CP := Lib.hid (fun b => program_fn b L hok Sx.start rfl)
  have CF := Lib.hid (fun b => failed_fn b L (Sx.Fs L Sx.start).2)
  have HLX := Lib.hid hl
  have HOK := Lib.hid (And.intro hok hlen)
  have E1 : ∀ w, (Op.equalIn 10000 27 (.agg #[.int .i64 0, .int .i64 0]) (.agg #[.int .i64 0, .int .i64 0])).run Tryz.prog w = .ok true w := fun w => bad_eq 0 0 0 0 w
  have hp : Sx.parse s.data.toList = .error ((Sx.Fs L Sx.start).2.err, (Sx.Fs L Sx.start).2.pos) := by unfold Sx.parse; rw [hl]; show (if (Sx.Fs L Sx.start).2.err = 0 then _ else _) = _; rw [if_neg hz]; rfl
  rw [hp]
  rw [decide_eq_true (p := (Sx.Fs L Sx.start).2.err ≠ 0) hz] at CF
  clear hl hp hT hs hok hlen hz
  go_enter Tryz.func12, Tryz.ntmps12
  go_wp2_with (first
    | (first | (refine wpl_alloc0 HS.out _ rfl pgZ ?_; intro b1 w1 HS1; clear HS) | (refine wpl_alloc HS1.out _ rfl bdZ ?_; intro b2 w2 HS2; clear HS1) | (refine wpl_alloc HS3.out _ rfl bdZ ?_; intro b4 w4 HS4; clear HS3) | (refine wpl_alloc HS10.out _ rfl pgZ ?_; intro b11 w11 HS11; clear HS10))
    | (go_at_call 30; refine (C1.out _).mono ?_; rintro e w3 ⟨v, x, p, rfl, hlx, hb⟩; rw [HLX.out] at hlx; obtain ⟨rfl, rfl, ho⟩ := hlx; obtain ⟨ad, cap, rfl, hcap, hs3⟩ := HS2.out.lexed hb HOK.out.2 ho; have HS3 := Lib.hid hs3; have HC := Lib.hid hcap; clear hb HS2 hs3 ho hcap)
    | (first | (refine wpl_storeS HS4.out 1 rfl rfl badT rfl (fitsB _ _) ?_; intro w5 hs; have HS5 := Lib.hid (show St _ _ _ (_ :: _ :: _ :: _ :: []) from hs.out); clear hs HS4) | (refine wpl_storeS HS11.out 1 rfl rfl pgT rfl fitsG ?_; intro w12 hs; have HS12 := Lib.hid (show St _ _ _ (_ :: _ :: _ :: _ :: _ :: _ :: []) from hs.out); clear hs HS11) | (refine wpl_storeS HS13.out 4 rfl rfl pgT rfl fitsG ?_; intro w14 hs; have HS14 := Lib.hid (show St _ _ _ (_ :: _ :: _ :: _ :: _ :: _ :: []) from hs.out); clear hs HS13) | (refine wpl_storeS HS14.out 5 rfl rfl badT rfl (fitsB _ _) ?_; intro w15 hs; have HS15 := Lib.hid (show St _ _ _ (_ :: _ :: _ :: _ :: _ :: _ :: []) from hs.out); clear hs HS14))
    | (refine wpl_box HS5.out rfl rfl ?_; intro b6 w6 hs; have HS6 := Lib.hid (St.rd0 HOK.out.1 HOK.out.2 HC.out (hs.out.sel [1, 0, 0, 0, 0] rfl)); clear hs HS5)
    | (go_at_call 31; refine (HS6.out.call1 (CP.out b6)).mono ?_; rintro e w10 ⟨J, ⟨q2, l2, c2, fs, rfl, rfl, hx⟩, hs⟩; simp only [List.cons_append, List.nil_append] at hs; have HX := Lib.hid hx; have HS10 := Lib.hid hs; clear hs hx HS6)
    | (go_at_call 32; refine (HS12.out.call1 (CF.out b6)).mono ?_; rintro e w13 ⟨J, ⟨rfl, rfl⟩, hs⟩; simp only [List.cons_append, List.nil_append] at hs; have HS13 := Lib.hid hs; clear hs HS12)
    | (refine wpl_loadS HS5.out 1 rfl rfl badT rfl ?_))
  obtain ⟨a2, cap2, c9, m2, e2, pp2, hr, hs3⟩ := HS13.out.rdOpen
  have HR2 := Lib.hid hr
  have HO2 := Lib.hid hs3
  clear hs3 hr
  have hon : ∀ {w' : World} {I : List It}, St (fun _ => False) w w' (.row b6 69 (rdC a2 cap2 L c9 m2 e2 pp2) :: I) → OnC w' ⟨b6, 2, none⟩ [.int .i64 e2, .int .i64 pp2] := fun h j u hj => by
    have h2 : (⟨b6, 2, none⟩ : Addr).add j = ⟨b6, 2 + j, none⟩ := by unfold Addr.add; split <;> simp_all
    rw [h2, h.cell 0 rfl]
    rcases j with _ | _ | j
    · exact hj
    · exact hj
    · cases hj
  refine wp_region_held_drew (S := fun w' => OnC w' ⟨b6, 2, none⟩ [.int .i64 e2, .int .i64 pp2]) (by kernel_rfl) (hon HO2.out.drew) (fun hHeld => ?_)
  refine tkH 0 ?_
  refine tkH 1 ?_
  refine tkH 2 ?_
  refine tkH 3 ?_
  refine tkY 4 (yieldsIf_loadC (by rfl) rfl badT rfl (fun _ h => h)) ?_
  refine wpAnyH_ready (rs := [5]) (by kernel_rfl) (by simp) ?_
  refine AllReadyH.cons rfl (fun K hK => ?_) AllReadyH.nil
  (refine wp_storeS HO2.out.drew 5 ⟨rfl, rfl⟩ rfl pgT rfl fitsG ?_; intro w14 hs; have HS14 := Lib.hid (show St _ _ _ (_ :: _ :: _ :: _ :: _ :: _ :: _ :: []) from hs.out); clear hs)
  refine hK.out _ _ (hon HS14.out) (fun hHeld => ?_)
  clear hK K
  (try simp only [Act.put, List.setIfInBounds_toArray, List.set_cons_zero, List.set_cons_succ, List.getElem_toArray, List.getElem_cons_succ, List.getElem_cons_zero])
  refine wpAnyH_ready (rs := [6]) (by kernel_rfl) (by simp) ?_
  refine AllReadyH.cons rfl (fun K hK => ?_) AllReadyH.nil
  (refine wp_storeS HS14.out 6 ⟨rfl, rfl⟩ rfl badT rfl (fitsB _ _) ?_; intro w15 hs; have HS15 := Lib.hid (show St _ _ _ (_ :: _ :: _ :: _ :: _ :: _ :: _ :: []) from hs.out); clear hs)
  refine hK.out _ _ (hon HS15.out) (fun hHeld => ?_)
  clear hK K
  (try simp only [Act.put, List.setIfInBounds_toArray, List.set_cons_zero, List.set_cons_succ, List.getElem_toArray, List.getElem_cons_succ, List.getElem_cons_zero])
  refine wpAnyH_done (by kernel_rfl) ?_ _
  try go_wp2
  refine bp_cells HS15.out 5 6 pgT badT rfl rfl rfl rfl rfl rfl rfl rfl ⟨_, _, _, _, _, rfl, ⟨rfl, HR2.out.he, HR2.out.hp⟩, below_of HS15.out⟩
theorem Lx.lex_err {s : List UInt8} {er : Int} {n : Nat} (h : Lx.lex s = .error (er, n)) : er ≠ 0 := by
  unfold Lx.lex at h
  split at h
  · cases h; decide
  · split at h <;> cases h
    decide
/-- what the program's Parse tells of any text -/
theorem parse_any (s : ByteArray) (hs : s.size ≤ 281474976710656) (w : World) (hT : TabAt w) : Calls Tryz.prog 12 #[.string s] w fun e w' => ∃ (q : Option Addr) (l c : Nat) (x p : Int), e = .returned (.tuple #[.agg #[.slice q l c], .agg (bdA x p)]) ∧ PR w w' (Sx.parse s.data.toList) (.slice q l c) x p ∧ Below w.heap.size w w' := by
  cases hl : Lx.lex s.data.toList with
  | error q => exact parse_lexbad s hs w hT q.1 q.2 (Lx.lex_err hl) hl
  | ok L =>
    by_cases hz : (Sx.Fs L Sx.start).2.err = 0
    · exact parse_good s hs w hT L hl hz
    · exact parse_bad s hs w hT L hl hz
theorem TabAt.below {w w' : World} (h : TabAt w) (hb : Below w.heap.size w w') : TabAt w' := fun j v hj => by
  have h1 := h j v hj
  rw [World.cell?_of_block (w := w) (hb.block _ (cell_lt h1))]
  exact h1
end Go.Proofs.YtjfdcnggnldgdaaGreatDoor
end
section
namespace Go.Proofs.YtjfdcnggnldgdaaGreatDoor
open Go.ChangeShapes Go.WideShapes Go.ChangeAt Go.RowKit
set_option linter.unusedVariables false
set_option linter.unusedSimpArgs false

/-- what Parse tells, as parts -/
def PJ (r : Except (Int × Int) (List Sx.F)) (v : Value) (x p : Int) (J : List It) : Prop :=
  match r with
  | .error (e, n) => v = .slice none 0 0 ∧ x = e ∧ p = n ∧ J = []
  | .ok fs => x = 0 ∧ p = 0 ∧ J = [fsI v fs]
theorem parse_Fn (s : ByteArray) (hs : s.size ≤ 281474976710656) : Fn 12 #[.string s] [] fun e J => ∃ (q : Option Addr) (l c : Nat) (x p : Int), e = .returned (.tuple #[.agg #[.slice q l c], .agg (bdA x p)]) ∧ PJ (Sx.parse s.data.toList) (.slice q l c) x p J := by
  intro w P hP h0
  refine (parse_any s hs w hP.tab).mono ?_
  rintro e w' ⟨q, l, c, x, p, rfl, hr, hb⟩
  have hst : St P w w' [] := ⟨hP, ⟨hb.os, hb.tape, hb.output, hb.size, fun k hk _ => hb.block k hk⟩, trivial⟩
  cases hp : Sx.parse s.data.toList with
  | error e =>
    rw [hp] at hr
    exact ⟨[], ⟨q, l, c, x, p, rfl, hr.1, hr.2.1, hr.2.2, rfl⟩, hst⟩
  | ok fs =>
    rw [hp] at hr
    refine ⟨[fsI (.slice q l c) fs], ⟨q, l, c, x, p, rfl, hr.1, hr.2.1, rfl⟩, hst.gd, hst.rest, ?_⟩
    exact Sep.cons (A := fun k => w.heap.size ≤ k ∧ k < w'.heap.size) (B := fun _ => False) hr.2.2 trivial (fun k hk => ⟨hk.2, Or.inr hk.1⟩) (fun _ h => h.elim) (fun _ _ h => h)
theorem fs_len {w : World} {P : Nat → Prop} {v : Value} {fs : List Sx.F} (h : (fsI v fs).on w P) : ∃ q cap, v = .slice q fs.length cap := by
  obtain ⟨xs, A, B, h1, h2, h3, h4, h5⟩ := h
  exact own_len h4
theorem parse_is (s : ByteArray) (hs : s.size ≤ 281474976710656) {fs : List Sx.F} (h : Sx.parse s.data.toList = .ok fs) : Fn 12 #[.string s] [] fun e J => ∃ (q : Option Addr) (c : Nat), e = .returned (.tuple #[.agg #[.slice q fs.length c], .agg (bdA 0 0)]) ∧ J = [fsI (.slice q fs.length c) fs] := by
  intro w P hP h0
  refine (parse_Fn s hs w P hP h0).mono ?_
  rintro e w' ⟨J, ⟨q, l, c, x, p, rfl, hj⟩, hst⟩
  rw [h] at hj
  obtain ⟨rfl, rfl, rfl⟩ := hj
  obtain ⟨A, B, h1, h2, h3, h4, h5⟩ := hst.sep
  obtain ⟨q', c', hv⟩ := fs_len h4
  cases hv
  exact ⟨_, ⟨q, c, rfl, rfl⟩, hst⟩
theorem parse_no (s : ByteArray) (hs : s.size ≤ 281474976710656) {er n : Int} (h : Sx.parse s.data.toList = .error (er, n)) : Fn 12 #[.string s] [] fun e J => e = .returned (.tuple #[.agg #[.slice none 0 0], .agg (bdA er n)]) ∧ J = [] := by
  intro w P hP h0
  refine (parse_Fn s hs w P hP h0).mono ?_
  rintro e w' ⟨J, ⟨q, l, c, x, p, rfl, hj⟩, hst⟩
  rw [h] at hj
  obtain ⟨hv, rfl, rfl, rfl⟩ := hj
  cases hv
  exact ⟨_, ⟨rfl, rfl⟩, hst⟩
theorem wpl_loadC {ops : Array Oper} {rest : List Oper} {o : Oper} {a : Act} {w : World} {Q : Exit → Act → World → Prop} {t : TypeId} {n : Nat} {p : Addr} {vs : List Value} (h : OnC w p vs) (ho : ldOf a o = some (t, .pointer (some p))) (T : StructT t n) (hn : vs.length = n)
    (k : wpList Tryz.prog ops Q rest (a.put o.dst (.agg vs.toArray)) w) : wpList Tryz.prog ops Q (o :: rest) a w := by
  obtain ⟨hg, y, ho, hx⟩ := ldOf_eq ho
  refine wpList_plain hg fun K hK => ?_
  obtain ⟨fs, hu⟩ := T.und
  have hl := run_loadCells_list (P := Tryz.prog) w p vs h
  have hr : (loadVar t p).run Tryz.prog w = .ok (.agg vs.toArray) w := by
    have hi := T.info
    cases hq : Tryz.prog.info? t with
    | none => rw [hq] at hi; cases hi
    | some i =>
      have hs : i.size = vs.length := by rw [hq] at hi; simpa [hn] using hi
      have hagg : (isAgg t).run Tryz.prog w = .ok true w := by
        unfold isAgg
        rw [Sem.run_bind, run_underlying hu w]
        rfl
      simp [loadVar, Sem.run_bind, hagg, sizeOf, typeInfo, hq, hs, hl]
  unfold Oper.wp execOp
  simp only [ho, hx, Instr.loadAt, Instr.sureAddr, Sem.run_bind, Sem.run_pure, Result.andThen_ok, hr]
  exact hK _ _ k
/-- a row's own cells, as they lie -/
theorem own_on {w : World} {P : Nat → Prop} {t : TypeId} {sz n : Nat} {v : Value} {xs : List Value} (h : OwnP w P t sz v n xs) (hn : n ≠ 0) : ∃ g cap, v = .slice (some ⟨g, 0, none⟩) n cap ∧ P g ∧ OnC w ⟨g, 0, none⟩ xs := by
  obtain ⟨⟨h1, h2⟩, h3⟩ := h
  rcases h2 with ⟨rfl, h0⟩ | ⟨g, cap, cur, rfl, h4, h5, h6, h7, h8, h9⟩
  · exact absurd h0 hn
  · refine ⟨g, cap, rfl, h3 g rfl, fun j u hj => ?_⟩
    have h2 : (⟨g, 0, none⟩ : Addr).add j = ⟨g, j, none⟩ := by unfold Addr.add; split <;> simp_all
    rw [h2, cell_of_row w g j _ _ _ h5, ← Array.getElem?_toList]
    rw [← h9] at hj
    rw [List.getElem?_take] at hj
    split at hj
    · exact hj
    · cases hj
def litA : ByteArray := ⟨#[102, 110, 32, 102, 40, 41, 32, 123, 32, 120, 32, 61, 32, 49, 32, 43, 32, 50, 32, 42, 32, 121, 59, 32, 125]⟩
def litB : ByteArray := ⟨#[102, 110, 32, 102, 40, 41, 32, 123, 32, 120, 32, 61, 32, 97, 32, 60, 32, 98, 32, 60, 32, 99, 59, 32, 125]⟩
def litEs : List Sx.E := [.mk 1 13 1 [] [], .mk 10 19 0 [] [.mk 1 17 2 [] [], .mk 2 21 0 [121] []]]
def litF : Sx.F := ⟨3, [102], [], false, Sx.noTy, [.mk 3 9 0 [120] Sx.noTy [.mk 8 15 0 [] litEs] [] [] false]⟩
theorem lit_good : Sx.parse litA.data.toList = .ok [litF] := by kernel_rfl
theorem lit_less : Sx.parse litB.data.toList = .error (10, 19) := by kernel_rfl
/-- the first example's tree, where it lies -/
def litI (g1 g2 g3 g4 c2 c3 c4 : Nat) : It := .hp
  { on := fun w P => P g1 ∧ P g2 ∧ P g3 ∧ P g4 ∧ w.cell? ⟨g1, 7, none⟩ = some (.slice (some ⟨g2, 0, none⟩) 1 c2) ∧ w.cell? ⟨g2, 7, none⟩ = some (.slice (some ⟨g3, 0, none⟩) 1 c3) ∧ OnC w ⟨g3, 0, none⟩ [.int .i64 8, .int .i64 15, .int .i64 0, .string (Lx.S []), .slice (some ⟨g4, 0, none⟩) 2 c4] ∧ w.cell? ⟨g4, 5, none⟩ = some (.int .i64 10)
    loc := fun w w' P ⟨h1, h2, h3, h4, h5, h6, h7, h8⟩ e => ⟨h1, h2, h3, h4, (World.cell?_of_block (w := w) (w' := w') (e _ h1)).trans h5, (World.cell?_of_block (w := w) (w' := w') (e _ h2)).trans h6, fun j u hj => by
      rw [World.cell?_of_block (w := w) (w' := w') (e _ (show P ((⟨g3, 0, none⟩ : Addr).add j).block from by rw [show ((⟨g3, 0, none⟩ : Addr).add j).block = g3 from by unfold Addr.add; split <;> rfl]; exact h3))]; exact h7 j u hj, (World.cell?_of_block (w := w) (w' := w') (e _ h4)).trans h8⟩
    wide := fun w P P' ⟨h1, h2, h3, h4, h5⟩ f => ⟨f _ h1, f _ h2, f _ h3, f _ h4, h5⟩ }
theorem OnC.at0 {w : World} {g : Nat} {xs : List Value} (h : OnC w ⟨g, 0, none⟩ xs) (j : Nat) {u : Value} (hj : xs[j]? = some u) : w.cell? ⟨g, j, none⟩ = some u := by
  have h1 := h j u hj
  rwa [show (⟨g, 0, none⟩ : Addr).add j = ⟨g, j, none⟩ from by unfold Addr.add; split <;> simp_all] at h1
theorem lit_open {w : World} {P : Nat → Prop} {v : Value} (h : (fsI v [litF]).on w P) : ∃ g1 g2 g3 g4 c1 c2 c3 c4, v = .slice (some ⟨g1, 0, none⟩) 1 c1 ∧ (litI g1 g2 g3 g4 c2 c3 c4).on w P := by
  obtain ⟨xs, A, B, h1, h2, h3, h4, C, D, h5, h6, h7, h8, h9⟩ := h
  obtain ⟨g1, c1, rfl, k1, k2⟩ := own_on h4 (by decide)
  obtain ⟨c, r, rfl, ⟨vp, vb, xb, rfl, m1, m2, m3⟩, rfl⟩ := h8
  obtain ⟨g2, c2, rfl, k3, k4⟩ := own_on m2 (by decide)
  change slOn w C [Sx.S.mk 3 9 0 [120] Sx.noTy [.mk 8 15 0 [] litEs] [] [] false] xb at m3
  rw [slOn] at m3
  obtain ⟨c, r, rfl, m4, _⟩ := m3
  rw [stOn] at m4
  obtain ⟨va, vb2, ve, xa, xb2, xe, rfl, ⟨m5, m6⟩, _, _⟩ := m4
  obtain ⟨g3, c3, rfl, k5, k6⟩ := own_on m5 (by decide)
  rw [elOn] at m6
  obtain ⟨c, r, rfl, m7, _⟩ := m6
  rw [exOn] at m7
  obtain ⟨v4, x4, rfl, m8, m9⟩ := m7
  obtain ⟨g4, c4, rfl, k7, k8⟩ := own_on m8 (by decide)
  unfold litEs at m9
  rw [elOn] at m9
  obtain ⟨ca, r, rfl, m10, m11⟩ := m9
  have hca := exOn_len _ _ m10
  rw [elOn] at m11
  obtain ⟨cb, r, rfl, m12, _⟩ := m11
  rw [exOn] at m12
  obtain ⟨v5, x5, rfl, _⟩ := m12
  refine ⟨g1, g2, g3, g4, c1, c2, c3, c4, rfl, h1 _ k1, h2 _ (h5 _ k3), h2 _ (h5 _ k5), h2 _ (h5 _ k7), k2.at0 7 rfl, k4.at0 7 rfl, fun j u hj => k6 j u ?_, k8.at0 5 ?_⟩
  · exact (List.getElem?_append_left (List.getElem?_eq_some_iff.1 hj).1).trans hj
  · rw [List.getElem?_append_right (by omega), hca]; rfl
set_option maxHeartbeats 8000000 in
set_option maxRecDepth 100000 in
theorem lives_Fn : Fn 15 #[] [] fun e J => e = .returned (.bool true) ∧ J = [] := by
  intro w P hP h0
  have HS := Lib.hid (St.start hP h0)
  have C1 := Lib.hid (parse_is litA (by decide) lit_good)
  have C2 := Lib.hid (parse_no litB (by decide) lit_less)
  have tok1 : True := trivial
  have E1 : ∀ w, (Op.equalIn 10000 27 (.agg #[.int .i64 0, .int .i64 0]) (.agg #[.int .i64 0, .int .i64 0])).run Tryz.prog w = .ok true w := fun w => bad_eq 0 0 0 0 w
  have E2 : ∀ w, (Op.equalIn 10000 27 (.agg #[.int .i64 10, .int .i64 19]) (.agg #[.int .i64 10, .int .i64 19])).run Tryz.prog w = .ok true w := fun w => bad_eq 10 19 10 19 w
  clear h0 hP
  go_enter Tryz.func15, Tryz.ntmps15
  go_wp2_with (first
    | (go_at_call 12; have _t := tok1; refine (St.call (pre := []) HS.out C1.out).mono ?_; rintro e w1 ⟨J, ⟨q, c1, rfl, rfl⟩, hs⟩; simp only [List.cons_append, List.nil_append] at hs; obtain ⟨A, B, hA, hB, hAB, hfs, hrest⟩ := hs.sep; obtain ⟨g1, g2, g3, g4, c1', c2, c3, c4, hv, hli⟩ := lit_open hfs; cases hv; have HS1 := Lib.hid (show St _ _ _ [litI g1 g2 g3 g4 c2 c3 c4] from ⟨hs.gd, hs.rest, A, B, hA, hB, hAB, hli, hrest⟩); clear hs tok1 HS hA hB hAB hfs hrest hli)
    | (go_at_call 12; refine (St.call (pre := []) HS4.out C2.out).mono ?_; rintro e w5 ⟨J, ⟨rfl, rfl⟩, hs⟩; simp only [List.cons_append, List.nil_append] at hs; have HS5 := Lib.hid hs; clear hs HS4)
    | (first | (refine wpl_alloc HS1.out _ rfl pgZ ?_; intro b1 w2 HSa; clear HS1) | (refine wpl_alloc HSa.out _ rfl bdZ ?_; intro b2 w2 HS2; clear HSa) | (refine wpl_alloc HS5.out _ rfl pgZ ?_; intro b6 w6 HS6; clear HS5) | (refine wpl_alloc HS6.out _ rfl bdZ ?_; intro b7 w7 HS7; clear HS6) | (refine wpl_alloc HS9.out _ rfl exZ ?_; intro b10 w10 HS10; clear HS9))
    | (first | (refine wpl_storeS HS2.out 2 rfl rfl pgT rfl fitsG ?_; intro w3 hs; have HS3 := Lib.hid (show St _ _ _ (_ :: _ :: _ :: []) from hs.out); clear hs HS2) | (refine wpl_storeS HS3.out 1 rfl rfl badT rfl (fitsB _ _) ?_; intro w4 hs; have HS4 := Lib.hid (show St _ _ _ (_ :: _ :: _ :: []) from hs.out); clear hs HS3) | (refine wpl_storeS HS7.out 2 rfl rfl pgT rfl fitsG ?_; intro w8 hs; have HS8 := Lib.hid (show St _ _ _ (_ :: _ :: _ :: _ :: _ :: []) from hs.out); clear hs HS7) | (refine wpl_storeS HS8.out 1 rfl rfl badT rfl (fitsB _ _) ?_; intro w9 hs; have HS9 := Lib.hid (show St _ _ _ (_ :: _ :: _ :: _ :: _ :: []) from hs.out); clear hs HS8; obtain ⟨u1, u2, u3, u4, t1, t2, t3, t4⟩ := (HS9.out.sep.pick 0 rfl).choose_spec.choose_spec.2.2.2.1; clear u1 u2 u3 u4; have f1 : w9.cell? ⟨b1, 0, none⟩ = some (.slice (some ⟨g1, 0, none⟩) 1 c1) := HS9.out.cell 4 rfl 0; have HT := Lib.hid t3; have q3 := t3.at0 4 rfl; clear t3) | (refine wpl_storeS HS10.out 1 rfl rfl exT rfl fitsX' ?_; intro w11 hs; have HS11 := Lib.hid (show St _ _ _ (_ :: _ :: _ :: _ :: _ :: _ :: []) from hs.out); clear hs HS10; obtain ⟨u1, u2, u3, u4, s1, s2, s3, s4⟩ := (HS11.out.sep.pick 0 rfl).choose_spec.choose_spec.2.2.2.1; clear u1 u2 u3 u4; have e0 : w11.cell? ⟨b10, 0, none⟩ = some (.int .i64 8) := HS11.out.cell 1 rfl 0; have e1 : w11.cell? ⟨b10, 1, none⟩ = some (.int .i64 15) := HS11.out.cell 1 rfl 1; have e4 : w11.cell? ⟨b10, 4, none⟩ = some (.slice (some ⟨g4, 0, none⟩) 2 c4) := HS11.out.cell 1 rfl 4; have d0 : w11.cell? ⟨b7, 0, none⟩ = some (.int .i64 10) := HS11.out.cell 2 rfl 0; have d1 : w11.cell? ⟨b7, 1, none⟩ = some (.int .i64 19) := HS11.out.cell 2 rfl 1; clear s1 s2 s3))
    | (refine wpl_loadS HS9.out 3 rfl rfl badT rfl ?_)
    | (refine wpl_loadC HT.out rfl exT rfl ?_))
  go_ret
  exact ⟨_, ⟨rfl, rfl⟩, HS11.out.sel [] rfl⟩
end Go.Proofs.YtjfdcnggnldgdaaGreatDoor
end
