/-
  What package lex's Lex returns.
-/
import Derived.Test.YtknbnfnibdbokaaDoorLxS
namespace Go.Proofs.YtknbnfnibdbokaaDoor
open Go.ChangeShapes Go.WideShapes Go.ChangeAt Go.RowKit
set_option linter.unusedVariables false
set_option linter.unusedSimpArgs false

/-- an answer of tokens, or an error and its place -/
def LexR (W : World) (r : Except (Int × Nat) (List Lx.Tok)) (v : Value) (e p : Int) : Prop :=
  match r with
  | .error (q, n) => v = .slice none 0 0 ∧ e = q ∧ p = n
  | .ok ts => e = 0 ∧ p = 0 ∧ SliceC tkC 4 W v ts
theorem LexR.kept {W W' : World} {r : Except (Int × Nat) (List Lx.Tok)} {v : Value} {e p : Int} (h : LexR W r v e p) (hb : Below W.heap.size W W') : LexR W' r v e p := by
  rcases r with ⟨q, n⟩ | ts
  · exact h
  · exact ⟨h.1, h.2.1, h.2.2.kept hb⟩
theorem bp_tmp_blk {a : Act} {w : World} {b n : Nat} {t : TypeId} {cs : Array Value} {fn : Func} {R : Ending → World → Prop} {p q : Tmp} (T : StructT t n) (hr : fn.results = #[.tmp q, .cell p t]) (hp : a.tmps.getD p undef = .pointer (some ⟨b, 0, none⟩)) (h : Blk w b t n cs) (hd : a.defers = []) (hR : R (.returned (.tuple #[a.tmps.getD q undef, .agg cs])) w) : bodyPost Tryd.prog fn R .ret a w := by
  obtain ⟨fs, hu⟩ := T.und
  have hp' : a.tmps[p]?.getD undef = .pointer (some ⟨b, 0, none⟩) := by simpa using hp
  refine bodyPost_ret ?_ hd hR
  simp [results, hr, hp', asAddr, run_loadVar_row w b _ _ _ _ _ h.at' hu rfl (by rw [h.size]; exact T.info)]
theorem Lx.lex_big (l : List UInt8) (h : 65536 < l.length) : Lx.lex l = .error (5, 0) := by unfold Lx.lex; rw [if_pos h]
theorem Lx.lex_Tk (l : List UInt8) (h : ¬ 65536 < l.length) : Lx.lex l = match Lx.Tk l.length l with | .error q => .error (9, q) | .ok ts => .ok (ts ++ [⟨0, l.length, 0, []⟩]) := by
  unfold Lx.lex Lx.Tk; rw [if_neg h, Nat.sub_self]
  cases Lx.toks (l.length + 1) 0 l <;> rfl
set_option maxHeartbeats 8000000 in
set_option maxRecDepth 100000 in
theorem lex_any (s : ByteArray) (hs : s.size ≤ 281474976710656) (w : World) :
    Calls Tryd.prog 6 #[.string s] w fun e w' => ∃ (v : Value) (x p : Int), e = .returned (.tuple #[v, .agg (bdA x p)]) ∧ LexR w' (Lx.lex s.data.toList) v x p ∧ Below w.heap.size w w' := by
  obtain ⟨i0, hi, hz0, hz1, hz2⟩ := info_parts Tryd.infoTok
  have HB0 := Lib.hid (Blk.new w 25 (bdA 0 0))
  have HZ := Lib.hid (Lib.size_eq s)
  by_cases hbig : 65536 < s.size
  · have hbig' : (65536 : Int) < (s.size : Int) := by omega
    have HL := Lib.hid (Lx.lex_big s.data.toList (by rw [← HZ.out]; exact hbig))
    clear hz0 hz1 hz2 hi
    go_enter Tryd.func6, Tryd.ntmps6
    go_wp2_with (first
      | ((with_reducible refine wpList_store_blk badT HB0.out (fitsB 5 0) ?_ ?_); exact rfl))
    try simp only [Exit.inBlock, Exit.then]
    refine bp_tmp_blk badT rfl rfl (HB0.out.row (ds := bdA 5 0) rfl) rfl ⟨_, _, _, rfl, ?_, below_setRow ((Below.refl _ _).alloc (Nat.le_refl _) _) (Nat.le_refl _) _⟩
    rw [HL.out]; exact ⟨rfl, rfl, rfl⟩
  · have hbig' : ¬ (65536 : Int) < (s.size : Int) := by omega
    have HL := Lib.hid (Lx.lex_Tk s.data.toList (by rw [← HZ.out]; exact hbig))
    obtain ⟨N, hN⟩ : ∃ N, s.data.toList.length = N := ⟨_, rfl⟩
    rw [hN] at HL
    have hsN : s.size = N := by rw [Lib.size_eq]; exact hN
    have HSN := Lib.hid hsN
    obtain ⟨l, hl⟩ : ∃ l, s.data.toList = l := ⟨_, rfl⟩
    have C1 := Lib.hid words_any
    have C2 := Lib.hid fun w => unparted_any s hs w
    rw [hl] at C2 HL hN ⊢
    have HN := Lib.hid hN
    clear hl hN hsN
    go_enter Tryd.func6, Tryd.ntmps6
    go_wp2_with (first
      | (go_at_call 11; refine (C1.out _).mono ?_; rintro e w1 ⟨rfl, hk1, hb1⟩; have HK1 := Lib.hid hk1; have HB1 := Lib.hid (HB0.out.kept hb1); have HC1 := Lib.hid (bel_new hb1); clear hk1 hb1)
      | (go_at_call 12; refine (C2.out _).mono ?_; rintro e w2 ⟨rfl, hb2⟩; have HK2 := Lib.hid (HK1.out.kept hb2); have HB2 := Lib.hid (HB1.out.kept hb2); have HC2 := Lib.hid (HC1.out.trans (hb2.mono HC1.out.size)); clear hb2))
    have HK3 : Hid (KnownAt w2 (w.heap.size + 1)) := Lib.hid (by
      have h := HK2.out
      rwa [show (w.alloc (Obj.cells #[.int .i64 0, .int .i64 0] 25)).heap.size = w.heap.size + 1 from Array.size_push _] at h)
    clear HK1 HK2
    go_loopw [5, 6] (fun L6 R wr => ∃ (done : List Lx.Tok) (m : List UInt8), R = .string (Lx.S (Lx.left m)) ∧ Hid (m.length ≤ N ∧ done.length + m.length ≤ N ∧ Lx.join (.ok done) (Lx.Tk N m) = Lx.Tk N l) ∧ wr.ownsRow w2.heap.size 37 4 L6 done.length (done.flatMap tkC) ∧ Below w2.heap.size w2 wr) (fun _ R _ => Lib.strSize R)
    case atStart => exact ⟨[], l, rfl, Lib.hid ⟨by rw [HN.out]; exact Nat.le_refl _, by rw [HN.out]; simp, by cases Lx.Tk N l <;> rfl⟩, World.ownsRow_nil _ _ _ _, Below.refl _ _⟩
    case round =>
      obtain ⟨done, m, rfl, HM, hrow, hB⟩ := hrel
      rcases hu : Lx.left m with _ | ⟨c, r⟩
      · have hE : (Lx.S ([] : List UInt8)).toList.isEmpty = true := by rw [Lib.toList_data]; rfl
        have hN0 : N ≤ 65536 := by have := HSN.out; omega
        have HNS := Lib.hid hN0
        have Hu := Lib.hid hu
        have HRW := Lib.hid hrow
        have HBW := Lib.hid hB
        clear hu hN0 hrow hB
        go_wp2_with (first
          | (at_builtin; refine wpList_append_own _ rfl _ _ 22 rfl w2.heap.size 37 i0 (.agg #[.int .i64 0, .int .i64 0, .int .i64 0, .string ⟨#[]⟩]) 4 40 Tryd.underlying22 hi hz0 hz1 hz2 rfl (by decide) _ _ _ rfl (HRW.out.alloc _) ⟨wr.heap.size, 0, none⟩ 1 1 (tkC ⟨0, s.size, 0, []⟩) rfl rfl (cell4_new wr ⟨0, s.size, 0, []⟩ 37) (by simp [tkC, Value.oneCell']) (by have h1 := HM.out.2.1; have h2 := HNS.out; unfold maxLen; omega) (by have h1 := HM.out.2.1; have h2 := HNS.out; omega) (by have := HBW.out.size; simp; omega) ?_; intro v' w7 hown' hgrow' hnil'; have HO7 := Lib.hid hown'; have HB7 := Lib.hid ((HBW.out.alloc HBW.out.size _).grown hgrow' (by have := HBW.out.size; simp; omega) (own_ge HRW.out)); clear hown' hgrow' hnil')
          | ((with_reducible refine wpList_store_blk badT (HB2.out.kept HB7.out) (fitsB 0 0) ?_ ?_); exact rfl))
        try simp only [Exit.inBlock, Exit.then]
        refine bp_tmp_blk badT rfl rfl ((HB2.out.kept HB7.out).row (ds := bdA 0 0) rfl) rfl ⟨_, _, _, rfl, ?_, below_setRow (HC2.out.trans (HB7.out.mono HC2.out.size)) (Nat.le_refl _) _⟩
        have h1 := HM.out.2.2
        rw [Lx.Tk_end N m Hu.out] at h1
        rw [HL.out, ← h1]
        have h4 := HO7.out
        have h5 : (done ++ [(⟨0, N, 0, []⟩ : Lx.Tok)]).flatMap tkC = done.flatMap tkC ++ tkC ⟨0, s.size, 0, []⟩ := by
          rw [List.flatMap_append, HSN.out]; simp
        have h6 : (done ++ [(⟨0, N, 0, []⟩ : Lx.Tok)]).length = done.length + 1 := by simp
        rw [← h5, ← h6] at h4
        have h7 := own_setRow h4 (b := w.heap.size) (by have := (HB2.out).lt; exact this) (bdA 0 0)
        show _ ∧ _ ∧ SliceC tkC 4 _ _ ((done ++ []) ++ [_])
        rw [List.append_nil]
        exact ⟨rfl, rfl, sliceC_own tkC_len h7⟩
      · have hul : (c :: r).length ≤ m.length := by rw [← hu]; exact Lx.left_le m
        have hN0 : N ≤ 65536 := by have := HSN.out; omega
        have hmN := HM.out.1
        obtain ⟨U, hU⟩ : ∃ U, Lx.S (c :: r) = U := ⟨_, rfl⟩
        have hUs : U.size = (c :: r).length := by rw [← hU, Lx.S_size]
        have hUl : U.data.toList = c :: r := by rw [← hU]; rfl
        have hUp : 0 < U.size := by rw [hUs]; simp
        have hUe := Lx.isEmpty U hUp
        have CF := Lib.hid fun w => first_any U (by omega) w
        rw [hUl] at CF
        have CT := Lib.hid fun w' hk => token_any c r (by omega) (w.heap.size + 1) w' hk
        have hfl := Lx.fst_le (c :: r)
        obtain ⟨V, hV⟩ : ∃ V, Lx.S (Lx.fst (c :: r)) = V := ⟨_, rfl⟩
        have hVs : V.size = (Lx.fst (c :: r)).length := by rw [← hV, Lx.S_size]
        rw [hV] at CF CT
        have hVU : V.size ≤ U.size := by omega
        have hUN : U.size ≤ N := by omega
        have hUs2 : (U.size : Int) ≤ (s.size : Int) := by have := HSN.out; omega
        have HU := Lib.hid hU
        have HV := Lib.hid hV
        have HUS := Lib.hid hUs
        have HUL := Lib.hid hUl
        have HVS := Lib.hid hVs
        have Hu := Lib.hid hu
        have HNS := Lib.hid hN0
        rw [hU]
        have CU := Lib.hid fun w => unparted_any (U.extract V.size U.size) (by rw [Lx.S_ext, Lx.S_size]; simp; omega) w
        clear hU hV hUs hUl hVs hu hfl hmN hul hN0
        by_cases h0 : Lx.cnt (c :: r) = 0
        · have hdec : decide (Lx.cnt (c :: r) ≠ 0) = false := by rw [h0]; rfl
          rw [hdec] at CT
          have H0 := Lib.hid h0
          clear h0 hdec
          go_wp2_with (first
            | (go_at_call 13; refine (CF.out _).mono ?_; rintro e w4 ⟨rfl, rfl⟩)
            | (go_at_call 14; refine (CT.out _ (HK3.out.kept hB)).mono ?_; rintro e w5 ⟨⟨k, n, t, rfl, _⟩, hb5⟩; have HB5 := Lib.hid (hB.trans (hb5.mono hB.size)); clear hb5)
            | ((with_reducible refine wpList_store_blk badT ((HB2.out.kept HB5.out).alloc _) (fitsB 9 ((s.size : Int) - (U.size : Int))) ?_ ?_); exact rfl))
          try simp only [Exit.inBlock, Exit.then]
          refine bp_tmp_blk badT rfl rfl (((HB2.out.kept HB5.out).alloc _).row (ds := bdA 9 ((s.size : Int) - (U.size : Int))) rfl) rfl ⟨_, _, _, rfl, ?_, below_setRow (((HC2.out.trans (HB5.out.mono HC2.out.size))).alloc (by have := HC2.out.size; have := HB5.out.size; omega) _) (Nat.le_refl _) _⟩
          have h1 := HM.out.2.2
          rw [Lx.Tk_bad N m HM.out.1 (by rw [Hu.out]; simp) (by rw [Hu.out]; exact H0.out), Hu.out] at h1
          rw [HL.out, ← h1]
          refine ⟨rfl, rfl, ?_⟩
          have h2 := HSN.out
          have h3 := HUS.out
          have h4 := HNS.out
          omega
        · have hdec : decide (Lx.cnt (c :: r) ≠ 0) = true := decide_eq_true h0
          rw [hdec] at CT
          have H0 := Lib.hid h0
          obtain ⟨P, hP⟩ : ∃ P : Nat, s.size = P + U.size := ⟨s.size - U.size, by omega⟩
          have hPe : (s.size : Int) - (U.size : Int) = (P : Int) := by omega
          have HP := Lib.hid hP
          clear h0 hdec hP
          go_wp2_with (first
            | (go_at_call 13; refine (CF.out _).mono ?_; rintro e w4 ⟨rfl, rfl⟩)
            | (go_at_call 14; refine (CT.out _ (HK3.out.kept hB)).mono ?_; rintro e w5 ⟨⟨k, n, t, rfl, hkn⟩, hb5⟩; have HKN := Lib.hid hkn; have HB5 := Lib.hid (hB.trans (hb5.mono hB.size)); have HR5 := Lib.hid (own_below hrow hb5); clear hb5 hkn hrow)
            | (at_builtin; refine wpList_append_own _ rfl _ _ 22 rfl w2.heap.size 37 i0 (.agg #[.int .i64 0, .int .i64 0, .int .i64 0, .string ⟨#[]⟩]) 4 40 Tryd.underlying22 hi hz0 hz1 hz2 rfl (by decide) _ _ _ rfl ((HR5.out.alloc _).alloc _) ⟨w5.heap.size + 1, 0, none⟩ 1 1 (tkC ⟨k, P, n, t⟩) rfl rfl (by have h := cell4_new (w5.alloc (.cells #[.int .i64 k, .int .i64 (P : Int), .int .i64 n, .string (Lx.S t)] 37)) ⟨k, P, n, t⟩ 37; rw [World.size_alloc] at h; exact h) (by simp [tkC, Value.oneCell']) (by have h1 := HM.out.2.1; have h2 := HNS.out; unfold maxLen; omega) (by have h1 := HM.out.2.1; have h2 := HNS.out; omega) (by have := HB5.out.size; simp; omega) ?_; intro v' w7 hown' hgrow' hnil'; have HO7 := Lib.hid hown'; have HB7 := Lib.hid (((HB5.out.alloc HB5.out.size _).alloc (by have := HB5.out.size; simp; omega) _).grown hgrow' (by have := HB5.out.size; simp; omega) (own_ge HR5.out)); clear hown' hgrow' hnil')
            | (go_at_call 12; refine (CU.out _).mono ?_; rintro e w8 ⟨rfl, hb8⟩; have HO8 := Lib.hid (own_below HO7.out hb8); have HB8 := Lib.hid (HB7.out.trans (hb8.mono HB7.out.size)); clear hb8))
          have hc1 := Lx.cnt_fst c r H0.out
          have hcl := Lx.one_le 0 (c :: r)
          have hD : List.take (U.size - V.size) (List.drop V.size U.data.toList) = (c :: r).drop (Lx.cnt (c :: r)) := by
            rw [HUL.out, List.take_of_length_le (by rw [List.length_drop, HUS.out]; exact Nat.le_refl _), HVS.out, ← hc1]
          have hml : (c :: r).length ≤ m.length := by rw [← Hu.out]; exact Lx.left_le m
          have hdl : ((c :: r).drop (Lx.cnt (c :: r))).length = (c :: r).length - Lx.cnt (c :: r) := List.length_drop
          have hpos : 0 < Lx.cnt (c :: r) := Nat.pos_of_ne_zero H0.out
          have h1 := HM.out.1
          have h2 := HM.out.2.1
          have h3 := HM.out.2.2
          have hlen : 0 < (c :: r).length := by simp
          rw [hD]
          refine ⟨⟨done ++ [⟨k, P, n, t⟩], (c :: r).drop (Lx.cnt (c :: r)), rfl, Lib.hid ⟨by omega, by rw [List.length_append, List.length_singleton]; omega, ?_⟩, ?_, HB8.out⟩, ?_⟩
          · rw [Lx.Tk_good N m h1 (by rw [Hu.out]; simp) (by rw [Hu.out]; exact H0.out), Hu.out, Lx.join_step, HKN.out H0.out] at h3
            have hon : (⟨k, 0, n, t⟩ : Lx.Tok).on (N - (c :: r).length) = ⟨k, P, n, t⟩ := by
              unfold Lx.Tok.on
              have h4 := HSN.out
              have h5 := HP.out
              have h6 := HUS.out
              rw [show (0 + (N - (c :: r).length) : Nat) = P from by omega]
            rw [hon] at h3
            exact h3
          · have h4 := HO8.out
            rw [List.length_append, List.flatMap_append]
            simpa using h4
          · rw [Lib.strSize_string, Lib.strSize_string, Lx.S_size, HUS.out]
            have := Lx.left_le ((c :: r).drop (Lx.cnt (c :: r)))
            omega
end Go.Proofs.YtknbnfnibdbokaaDoor
