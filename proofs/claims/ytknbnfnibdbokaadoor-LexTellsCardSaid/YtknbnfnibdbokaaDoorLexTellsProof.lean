/-
  Law LexTells: The tokens of any text are as the document says, or there is its error, at its place.
  Conditions: none but those of the given row.
-/
import Derived.Test.YtknbnfnibdbokaaDoorRows
import Derived.Test.YtknbnfnibdbokaaDoorLxQ
import Derived.Test.YtknbnfnibdbokaaDoorLxV
import Derived.Test.YtknbnfnibdbokaaDoorLxW
import Derived.Test.YtknbnfnibdbokaaDoorCards
import Derived.Test.YtknbnfnibdbokaaDoorTie
import Derived.LaidMore
import Derived.Lay
import Derived.SevenTiedAt
import Derived.Stop.Joined
import Derived.Handed
import Derived.WalkKit
import Derived.ProofKit
import Derived.OpenShut
import Derived.ShutString
import Derived.ChangeOld
import Derived.Below
import Derived.LoopN
import Derived.SizedLaws
import Derived.Deep.Cut
import Derived.Deep.CutRange
namespace Go.Proofs.YtknbnfnibdbokaaDoor.lexTells
open Go.ChangeShapes Go.WideShapes Go.ChangeAt Go.RowKit
open Go.ChangeMaps (open_string shut_string)
set_option linter.unusedVariables false
set_option linter.unusedSimpArgs false

theorem own : ownKnob Tryd.prog.godebug = none := by kernel_rfl
theorem laidOut : laidOutB Tryd.prog = true := by kernel_rfl

theorem nilC (W : World) : SliceC tkC 4 W (.slice none 0 0) [] := ⟨none, 0, rfl, fun k hk => absurd hk (Nat.not_lt_zero _)⟩
theorem sl_mk {q : Option Addr} {ts : List Lx.Tok} {W : World} (cap : Nat) (s : ∀ k (hk : k < ts.length), ∃ a, q = some a ∧ OnC W (a.add (k * 4)) (tkC ts[k])) : SliceC tkC 4 W (.slice q ts.length cap) ts := ⟨q, cap, rfl, s⟩
set_option maxHeartbeats 8000000 in
theorem walk (a0 : ByteArray) (w0 : a0.size ≤ reachBytes) (w : World) :
    Calls Tryd.prog 3 #[.string a0] w fun e w' => e = .returned (.bool true) ∧ Below w.heap.size w w' := by
  have hsz : a0.size ≤ 281474976710000 := by unfold reachBytes at w0; omega
  have C1 := Lib.hid fun w => lex_any a0 (by omega) w
  have C2 := Lib.hid fun w => rlex_any a0 hsz w
  have CL := Lib.hid lives_any
  clear w0
  rcases hL : Lx.lex a0.data.toList with ⟨q, n⟩ | ts
  · rw [hL] at C1 C2
    clear hL
    go_enter Tryd.func3, Tryd.ntmps3
    go_wp2_with (first
      | (go_at_call 6; refine (C1.out _).mono ?_; rintro e w1 ⟨v1, x1, p1, rfl, ⟨rfl, rfl, rfl⟩, hb1⟩; have HB1 := Lib.hid hb1; clear hb1)
      | (go_at_call 7; refine (C2.out _).mono ?_; rintro e w2 ⟨v2, x2, p2, rfl, ⟨rfl, rfl, rfl⟩, hb2⟩; have K1 := Lib.hid ((Blk.new w1 25 (bdA x2 n)).kept hb2); have HB2 := Lib.hid (HB1.out.trans ((bel_new hb2).mono HB1.out.size)); clear hb2)
      | (go_at_call 8; refine (same_any none none 0 0 0 0 [] [] _ (Lib.hid rfl) (Lib.hid rfl) (by omega) (Lib.hid (nilC _)) (Lib.hid (nilC _))).mono ?_; rintro e w3 ⟨rfl, hb3⟩; have b1 := (K1.out.alloc _).kept hb3; have b2 := (Blk.new w2 29 (bdA x2 n)).kept hb3; have c0 := b1.cell 0; have c1 := b1.cell 1; have d0 := b2.cell 0; have d1 := b2.cell 1; have HB3 := Lib.hid (HB2.out.trans ((bel_new hb3).mono HB2.out.size)); clear hb3 b1 b2)
      | (go_at_call 9; refine (CL.out _).mono ?_; rintro e w4 ⟨rfl, hb4⟩))
    go_ret
    exact ⟨rfl, HB3.out.trans (hb4.mono HB3.out.size)⟩
  · rw [hL] at C1 C2
    have HLN := Lib.hid (Lx.lex_len hL)
    have hlen := Lx.lex_len hL
    clear hL
    go_enter Tryd.func3, Tryd.ntmps3
    go_wp2_with (first
      | (go_at_call 6; refine (C1.out _).mono ?_; rintro e w1 ⟨v1, x1, p1, rfl, ⟨rfl, rfl, q1, k1, rfl, s1⟩, hb1⟩; have S1 := Lib.hid (sl_mk k1 s1); have HB1 := Lib.hid hb1; clear hb1 s1)
      | (go_at_call 7; refine (C2.out _).mono ?_; rintro e w2 ⟨v2, x2, p2, rfl, ⟨rfl, rfl, q2, k2, rfl, s2⟩, hb2⟩; have S0 := sl_mk k2 s2; have S2 := Lib.hid (SliceC.kept S0 (alloc_below w2 (.cells (bdA 0 0) 29))); have T1 := Lib.hid (((S1.out.kept (alloc_below w1 (.cells (bdA 0 0) 25))).kept hb2).kept (alloc_below w2 (.cells (bdA 0 0) 29))); have K1 := Lib.hid ((Blk.new w1 25 (bdA 0 0)).kept hb2); have HB2 := Lib.hid (HB1.out.trans ((bel_new hb2).mono HB1.out.size)); clear hb2 s2 S0)
      | (go_at_call 8; refine (same_any _ _ _ _ _ _ ts ts _ (Lib.hid rfl) (Lib.hid rfl) hlen T1 S2).mono ?_; rintro e w3 ⟨rfl, hb3⟩; have b1 := (K1.out.alloc _).kept hb3; have b2 := (Blk.new w2 29 (bdA 0 0)).kept hb3; have c0 := b1.cell 0; have c1 := b1.cell 1; have d0 := b2.cell 0; have d1 := b2.cell 1; have HB3 := Lib.hid (HB2.out.trans ((bel_new hb3).mono HB2.out.size)); clear hb3 b1 b2)
      | (go_at_call 9; refine (CL.out _).mono ?_; rintro e w4 ⟨rfl, hb4⟩))
    go_ret
    exact ⟨rfl, HB3.out.trans (hb4.mono HB3.out.size)⟩

set_option maxRecDepth 100000 in
theorem lifted (os : Os) (started : os.Started) (H : Type) (enc : TypeId × Value → H) :
    ReturnsInHanded {} Tryd.checked os 3 .any (fun w args => (Rows.lexTellsSpec.pre enc Tryd.prog Tryd.f3 Rows.lexTellsRow.domain false w args ∧ laidMetH Tryd.prog Rows.lexTellsRow.laid w) ∧ sizedMet enc Tryd.prog Tryd.f3 (OpenSpec.ofChange Rows.lexTellsSpec) false w args)
      (Rows.lexTellsSpec.post enc Tryd.prog Tryd.f3 false true false false) := by
  refine returnsInHanded_of_change_and (C := Tryd.checked) (X := fun w _ => laidMetH Tryd.prog Rows.lexTellsRow.laid w) (fun _ _ _ hh h => h.of_heap hh) own started (by kernel_rfl) Tryd.func3
    (ChangeSpec.witness_shaped (enc := enc) (C := Tryd.checked) (os := os) (X := fun w _ => laidMetH Tryd.prog Rows.lexTellsRow.laid w) false (World.laidAll Tryd.prog os Rows.lexTellsRow.laid) #[.string ByteArray.empty] 8 (World.laidAll_os _ _ _)
      (World.shaped_of_ZipB (by kernel_rfl) (by kernel_rfl)) (by kernel_rfl) (by kernel_rfl) (by kernel_rfl)
      (by rw [MakeChecks.laidMetH_plain _ _ _ (by kernel_rfl)]; exact laidMet_laidAll _ (by kernel_rfl) (by kernel_rfl))) ?_
  intro W base args ds gs before hval0 hW hcnd hsz hL _
  have hval : ∀ (j : Nat) t v, Tryd.f3.params[j]? = some t → args[j]? = some v → Value.okWide Tryd.prog W .any base t v := hval0
  have hW' := hW
  obtain ⟨p, q, hA0, hV, rfl, hfz, hnd⟩ := hW
  have hA : DataW.TrodAll enc Tryd.prog W 0 (fun _ => true) true Tryd.f3.params.toList args.toList ds p := hA0
  rw [Tryd.params3] at hA hval
  obtain ⟨v0, vs0, d0, ds0, p0, q0, hargs, rfl, rfl, h0, r0⟩ := trodAll_cons hA
  obtain ⟨rfl, rfl, rfl⟩ := trodAll_nil r0
  obtain rfl : args = #[v0] := by cases args; simp_all
  obtain ⟨rfl, rfl⟩ := trodVars_none hV
  obtain ⟨a0, rfl, rfl, rfl, m0⟩ := open_string Tryd.underlying9 (hval 0 9 v0 rfl rfl) h0
  have w0 : a0.size ≤ reachBytes := by
    have := sized_string hsz (j := 0) (t := 9) (bytes := a0.data.toList) rfl rfl
    simpa using this
  clear hA0 hval0
  refine (walk a0 w0 W).mono fun e W' ⟨he, bel⟩ => ?_
  subst he
  exact ⟨_, rfl, _, _, _, [], _, [], hW', trodAll_mk1 (shut_bool Tryd.underlying4 _), (trodAll_cons_mk (shut_string Tryd.underlying9 m0) trodAll_mk0), rfl, bel.frame _, fun h => by cases h⟩

theorem over : Rows.lexTellsRow.holds Tryd.pinned (OpenSpec.ofChange Rows.lexTellsSpec) :=
  OpenClaim.holds_of_wide 3 Tryd.f3 rfl rfl rfl rfl rfl rfl rfl ⟨rfl, rfl, rfl, rfl, rfl⟩ rfl rfl rfl rfl rfl (by kernel_rfl) Tryd.func3 (by kernel_rfl)
    (of_decide_eq_true (by kernel_rfl)) (by unfold Func.isWrapper; first | (rw [if_pos (by decide +kernel)]; kernel_rfl) | (rw [if_neg (by decide +kernel)]; exact ⟨rfl, rfl⟩))
    (fun os started H enc _ => lifted os started H enc)

/-- the statement: the card -/
theorem proved : Rows.LexTellsCardSaid :=
  Claim7.holds_tied_plain_at .later [] [.data, .pinned] true (true, "a4342d2894337cbb3fe07919dcee0dda5607a9754a19cb1bc71c0fc3f39993a4") false over (fun _ h => by cases h) (by kernel_rfl) (fun _ h => by cases h) lexTells_row_tie rfl ⟨rfl, rfl⟩ (by kernel_rfl) rfl
    (fun f fn hf hfn => by
      obtain rfl : f = 3 := Option.some.inj ((show Tryd.prog.funcNamed Rows.lexTellsRow.func = some 3 by kernel_rfl).symm.trans hf) |>.symm
      obtain rfl : fn = Tryd.f3 := (Option.some.inj (Tryd.func3.symm.trans hfn)).symm
      exact ⟨by kernel_rfl, fun j t ht => by
        rw [Tryd.params3] at ht
        have hm : t ∈ [9] := by simpa using Array.mem_of_getElem? ht
        have hall : ([9].all fun u => !Tryd.prog.wantsStandIn u) = true := by kernel_rfl
        exact (show Tryd.prog.wantsStandIn t = false by simpa using List.all_eq_true.1 hall t hm)⟩)
    (by kernel_rfl)
#print axioms proved
end Go.Proofs.YtknbnfnibdbokaaDoor.lexTells
