/-
  Layer 11's example is told.
-/
import Derived.Test.YtknbnfnibdbokaaDoorLxV
import Derived.Test.YtknbnfnibdbokaaDoorLxH
namespace Go.Proofs.YtknbnfnibdbokaaDoor
open Go.ChangeShapes Go.WideShapes Go.ChangeAt Go.RowKit
set_option linter.unusedVariables false
set_option linter.unusedSimpArgs false

theorem Lx.toks_len (f : Nat) : ∀ (p : Nat) (l : List UInt8) (ts : List Lx.Tok), Lx.toks f p l = .ok ts → ts.length ≤ l.length := by
  induction f with
  | zero => intro p l ts h; cases h
  | succ f ih =>
    intro p l ts h
    by_cases h1 : l.drop (Lx.skip false l) = []
    · rw [Lx.toks_end h1] at h; cases h; simp
    · by_cases h2 : (Lx.one (p + Lx.skip false l) (l.drop (Lx.skip false l))).2 = 0
      · rw [Lx.toks_bad rfl rfl h1 h2] at h; cases h
      · rw [Lx.toks_good rfl rfl h1 h2] at h
        have h3 := Lx.one_le (p + Lx.skip false l) (l.drop (Lx.skip false l))
        have h4 := Lx.skip_le false l
        rw [List.length_drop] at h3
        cases e : Lx.toks f (p + Lx.skip false l + (Lx.one (p + Lx.skip false l) (l.drop (Lx.skip false l))).2) ((l.drop (Lx.skip false l)).drop (Lx.one (p + Lx.skip false l) (l.drop (Lx.skip false l))).2) with
        | error q => rw [e] at h; cases h
        | ok us =>
          rw [e] at h
          cases h
          have h5 := ih _ _ _ e
          rw [List.length_drop, List.length_drop] at h5
          rw [List.length_cons]; omega
theorem Lx.lex_len {l : List UInt8} {ts : List Lx.Tok} (h : Lx.lex l = .ok ts) : ts.length ≤ 65537 := by
  unfold Lx.lex at h
  split at h
  · cases h
  · rename_i h1
    cases e : Lx.toks (l.length + 1) 0 l with
    | error q => rw [e] at h; cases h
    | ok us =>
      rw [e] at h
      cases h
      have := Lx.toks_len _ _ _ _ e
      rw [List.length_append, List.length_singleton]; omega
theorem alloc_below (W : World) (o : Obj) : Below W.heap.size W (W.alloc o) := (Below.refl _ _).alloc (Nat.le_refl _) o
theorem lit_bad : Lx.lex [97, 60, 60, 48, 120, 49, 70] = .error (9, 3) := by kernel_rfl
theorem lit_ok : Lx.lex [97, 60, 60, 48, 120, 49, 102] = .ok [⟨1, 0, 0, [97]⟩, ⟨4, 1, 0, [60, 60]⟩, ⟨2, 3, 31, []⟩, ⟨0, 7, 0, []⟩] := by kernel_rfl
set_option maxHeartbeats 8000000 in
set_option maxRecDepth 100000 in
theorem lives_any (w : World) : Calls Tryd.prog 9 #[] w fun e w' => e = .returned (.bool true) ∧ Below w.heap.size w w' := by
  have C1 := Lib.hid fun w => lex_any ⟨#[97, 60, 60, 48, 120, 49, 70]⟩ (by decide) w
  have C2 := Lib.hid fun w => lex_any ⟨#[97, 60, 60, 48, 120, 49, 102]⟩ (by decide) w
  have tok1 : True := trivial
  have hS : (Lx.S [60, 60]).toList = [60, 60] := by rw [Lib.toList_data]; rfl
  have E1 : ∀ w, (Op.equalIn 10000 25 (.agg #[.int .i64 9, .int .i64 3]) (.agg #[.int .i64 9, .int .i64 3])).run Tryd.prog w = .ok true w := fun w => bad_eq 9 3 9 3 w
  have E2 : ∀ w, (Op.equalIn 10000 25 (.agg #[.int .i64 0, .int .i64 0]) (.agg #[.int .i64 0, .int .i64 0])).run Tryd.prog w = .ok true w := fun w => bad_eq 0 0 0 0 w
  go_enter Tryd.func9, Tryd.ntmps9
  go_wp2_with (first
    | (go_at_call 6; have _t := tok1; refine (C1.out _).mono ?_; rintro e w1 ⟨v, x, p, rfl, hr, hb1⟩; (try rw [show (⟨#[97, 60, 60, 48, 120, 49, 70]⟩ : ByteArray).data.toList = [97, 60, 60, 48, 120, 49, 70] from rfl] at hr); rw [lit_bad] at hr; obtain ⟨rfl, rfl, rfl⟩ := hr; have HB1 := Lib.hid hb1; clear tok1 hb1)
    | (go_at_call 6; refine (C2.out _).mono ?_; rintro e w2 ⟨v, x, p, rfl, hr, hb2⟩; (try rw [show (⟨#[97, 60, 60, 48, 120, 49, 102]⟩ : ByteArray).data.toList = [97, 60, 60, 48, 120, 49, 102] from rfl] at hr); rw [lit_ok] at hr; obtain ⟨rfl, rfl, q, cap, rfl, hat⟩ := hr; obtain ⟨a, rfl, h1⟩ := hat 1 (by decide); obtain ⟨a2, he, h2⟩ := hat 2 (by decide); cases he; have y3 : ∀ o', (w2.alloc o').cell? ⟨a.block, a.off + 4 + 3, none⟩ = some (.string (Lx.S [60, 60])) := (fun o' => by have h := (TkAt.of (h1.kept (alloc_below w2 o'))).2.2.2; simpa [Addr.add] using h); have z2 : ∀ o', (w2.alloc o').cell? ⟨a.block, a.off + 8 + 2, none⟩ = some (.int .i64 31) := (fun o' => by have h := (TkAt.of (h2.kept (alloc_below w2 o'))).2.2.1; simpa [Addr.add] using h); have b9 := fun o' => ((Blk.new w1 25 (bdA 9 3)).kept (hb2.trans (alloc_below w2 o' |>.mono hb2.size))); have c0 := fun o' => ((b9 o').cell 0).trans rfl; have c1 := fun o' => ((b9 o').cell 1).trans rfl; have HB2 := Lib.hid (bel_new hb2); clear hb2 hat h1 h2 b9))
  go_ret
  exact ⟨rfl, (HB1.out.trans (HB2.out.mono HB1.out.size)).alloc (by have := HB1.out.size; have := HB2.out.size; omega) _⟩
end Go.Proofs.YtknbnfnibdbokaaDoor
