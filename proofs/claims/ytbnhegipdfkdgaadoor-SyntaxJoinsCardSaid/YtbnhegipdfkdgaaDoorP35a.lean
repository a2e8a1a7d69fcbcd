/-
What package lex's Lex returns, once more: the tokens' row is the call's own.
A function.
-/
import Derived.Test.YtbnhegipdfkdgaaDoorP12a
import Derived.Test.YtbnhegipdfkdgaaDoorP34a
section
namespace Go.Proofs.YtbnhegipdfkdgaaDoor
open Go.ChangeShapes Go.WideShapes Go.ChangeAt Go.RowKit
set_option linter.unusedVariables false
set_option linter.unusedSimpArgs false

/-- an answer of tokens in a row that lies at B or behind it, or an error and its place -/
def LexO (B : Nat) (W : World) (r : Except (Int × Nat) (List Lx.Tok)) (v : Value) (e p : Int) : Prop :=
  match r with
  | .error (q, n) => v = .slice none 0 0 ∧ e = q ∧ p = n
  | .ok ts => e = 0 ∧ p = 0 ∧ W.ownsRow B 59 4 v ts.length (ts.flatMap tkC)
theorem own_base {W : World} {B C : Nat} {e : TypeId} {size : Nat} {v : Value} {n : Nat} {xs : List Value} (h : W.ownsRow B e size v n xs) (hb : C ≤ B) : W.ownsRow C e size v n xs :=
  ⟨h.1, h.2.imp id fun ⟨g, cap, cur, h1, h2, h3, h4⟩ => ⟨g, cap, cur, h1, Nat.le_trans hb h2, h3, h4⟩⟩
set_option maxHeartbeats 8000000 in
set_option maxRecDepth 100000 in
theorem lex_own (s : ByteArray) (hs : s.size ≤ 281474976710656) (w : World) :
    Calls Tryd.prog 9 #[.string s] w fun e w' => ∃ (v : Value) (x p : Int), e = .returned (.tuple #[v, .agg (bdA x p)]) ∧ LexO w.heap.size w' (Lx.lex s.data.toList) v x p ∧ Below w.heap.size w w' := by
  obtain ⟨i0, hi, hz0, hz1, hz2⟩ := info_parts Tryd.infoTok
  have HB0 := Lib.hid (Blk.new w 28 (bdA 0 0))
  have HZ := Lib.hid (Lib.size_eq s)
  by_cases hbig : 65536 < s.size
  · have hbig' : (65536 : Int) < (s.size : Int) := by omega
    have HL := Lib.hid (Lx.lex_big s.data.toList (by rw [← HZ.out]; exact hbig))
    clear hz0 hz1 hz2 hi
    go_enter Tryd.func9, Tryd.ntmps9
    go_wp2_with (first
      | ((with_reducible refine wpList_store_blk badT HB0.out (fitsB 5 0) ?_ ?_); exact rfl))
    try simp only [Exit.inBlock, Exit.then]
    refine bp_tmp_blk badT rfl rfl (HB0.out.row (ds := bdA 5 0) rfl) rfl ⟨_, _, _, rfl, ?_, below_setRow ((Below.refl _ _).alloc (Nat.le_refl _) _) (Nat.le_refl _) _⟩
    rw [HL.out]; exact ⟨rfl, rfl, rfl⟩
  · have hbig' : ¬ (65536 : Int) < (s.size : Int) := by omega
    have HL := Lib.hid (Lx.lex_Tk s.data.toList (by rw [← HZ.out]; exact hbig))
    obtain ⟨N, hN⟩ : ∃ N, s.data.toList.length = N := ⟨_, rfl⟩
    rw [hN] at HL
    have hsN : s.size = N := by rw [Lib.size_eq]; exact hN
    have HSN := Lib.hid hsN
    obtain ⟨l, hl⟩ : ∃ l, s.data.toList = l := ⟨_, rfl⟩
    have C1 := Lib.hid words_any
    have C2 := Lib.hid fun w => unparted_any s hs w
    rw [hl] at C2 HL hN ⊢
    have HN := Lib.hid hN
    clear hl hN hsN
    go_enter Tryd.func9, Tryd.ntmps9
    go_wp2_with (first
      | (go_at_call 13; refine (C1.out _).mono ?_; rintro e w1 ⟨rfl, hk1, hb1⟩; have HK1 := Lib.hid hk1; have HB1 := Lib.hid (HB0.out.kept hb1); have HC1 := Lib.hid (bel_new hb1); clear hk1 hb1)
      | (go_at_call 14; refine (C2.out _).mono ?_; rintro e w2 ⟨rfl, hb2⟩; have HK2 := Lib.hid (HK1.out.kept hb2); have HB2 := Lib.hid (HB1.out.kept hb2); have HC2 := Lib.hid (HC1.out.trans (hb2.mono HC1.out.size)); clear hb2))
    have HK3 : Hid (KnownAt w2 (w.heap.size + 1)) := Lib.hid (by
      have h := HK2.out
      rwa [show (w.alloc (Obj.cells #[.int .i64 0, .int .i64 0] 28)).heap.size = w.heap.size + 1 from Array.size_push _] at h)
    clear HK1 HK2
    go_loopw [5, 6] (fun L6 R wr => ∃ (done : List Lx.Tok) (m : List UInt8), R = .string (Lx.S (Lx.left m)) ∧ Hid (m.length ≤ N ∧ done.length + m.length ≤ N ∧ Lx.join (.ok done) (Lx.Tk N m) = Lx.Tk N l) ∧ wr.ownsRow w2.heap.size 59 4 L6 done.length (done.flatMap tkC) ∧ Below w2.heap.size w2 wr) (fun _ R _ => Lib.strSize R)
    case atStart => exact ⟨[], l, rfl, Lib.hid ⟨by rw [HN.out]; exact Nat.le_refl _, by rw [HN.out]; simp, by cases Lx.Tk N l <;> rfl⟩, World.ownsRow_nil _ _ _ _, Below.refl _ _⟩
    case round =>
      obtain ⟨done, m, rfl, HM, hrow, hB⟩ := hrel
      rcases hu : Lx.left m with _ | ⟨c, r⟩
      · have hE : (Lx.S ([] : List UInt8)).toList.isEmpty = true := by rw [Lib.toList_data]; rfl
        have hN0 : N ≤ 65536 := by have := HSN.out; omega
        have HNS := Lib.hid hN0
        have Hu := Lib.hid hu
        have HRW := Lib.hid hrow
        have HBW := Lib.hid hB
        clear hu hN0 hrow hB
        go_wp2_with (first
          | (at_builtin; refine wpList_append_own _ rfl _ _ 45 rfl w2.heap.size 59 i0 (.agg #[.int .i64 0, .int .i64 0, .int .i64 0, .string ⟨#[]⟩]) 4 40 Tryd.underlying45 hi hz0 hz1 hz2 rfl (by decide) _ _ _ rfl (HRW.out.alloc _) ⟨wr.heap.size, 0, none⟩ 1 1 (tkC ⟨0, s.size, 0, []⟩) rfl rfl (cell4_new wr ⟨0, s.size, 0, []⟩ 59) (by simp [tkC, Value.oneCell']) (by have h1 := HM.out.2.1; have h2 := HNS.out; unfold maxLen; omega) (by have h1 := HM.out.2.1; have h2 := HNS.out; omega) (by have := HBW.out.size; simp; omega) ?_; intro v' w7 hown' hgrow' hnil'; have HO7 := Lib.hid hown'; have HB7 := Lib.hid ((HBW.out.alloc HBW.out.size _).grown hgrow' (by have := HBW.out.size; simp; omega) (own_ge HRW.out)); clear hown' hgrow' hnil')
          | ((with_reducible refine wpList_store_blk badT (HB2.out.kept HB7.out) (fitsB 0 0) ?_ ?_); exact rfl))
        try simp only [Exit.inBlock, Exit.then]
        refine bp_tmp_blk badT rfl rfl ((HB2.out.kept HB7.out).row (ds := bdA 0 0) rfl) rfl ⟨_, _, _, rfl, ?_, below_setRow (HC2.out.trans (HB7.out.mono HC2.out.size)) (Nat.le_refl _) _⟩
        have h1 := HM.out.2.2
        rw [Lx.Tk_end N m Hu.out] at h1
        rw [HL.out, ← h1]
        have h4 := HO7.out
        have h5 : (done ++ [(⟨0, N, 0, []⟩ : Lx.Tok)]).flatMap tkC = done.flatMap tkC ++ tkC ⟨0, s.size, 0, []⟩ := by
          rw [List.flatMap_append, HSN.out]; simp
        have h6 : (done ++ [(⟨0, N, 0, []⟩ : Lx.Tok)]).length = done.length + 1 := by simp
        rw [← h5, ← h6] at h4
        have h7 := own_setRow h4 (b := w.heap.size) (by have := (HB2.out).lt; exact this) (bdA 0 0)
        show _ ∧ _ ∧ World.ownsRow _ _ _ _ _ ((done ++ []) ++ [_]).length (((done ++ []) ++ [_]).flatMap tkC)
        rw [List.append_nil]
        exact ⟨rfl, rfl, own_base h7 HC2.out.size⟩
      · have hul : (c :: r).length ≤ m.length := by rw [← hu]; exact Lx.left_le m
        have hN0 : N ≤ 65536 := by have := HSN.out; omega
        have hmN := HM.out.1
        obtain ⟨U, hU⟩ : ∃ U, Lx.S (c :: r) = U := ⟨_, rfl⟩
        have hUs : U.size = (c :: r).length := by rw [← hU, Lx.S_size]
        have hUl : U.data.toList = c :: r := by rw [← hU]; rfl
        have hUp : 0 < U.size := by rw [hUs]; simp
        have hUe := Lx.isEmpty U hUp
        have CF := Lib.hid fun w => first_any U (by omega) w
        rw [hUl] at CF
        have CT := Lib.hid fun w' hk => token_any c r (by omega) (w.heap.size + 1) w' hk
        have hfl := Lx.fst_le (c :: r)
        obtain ⟨V, hV⟩ : ∃ V, Lx.S (Lx.fst (c :: r)) = V := ⟨_, rfl⟩
        have hVs : V.size = (Lx.fst (c :: r)).length := by rw [← hV, Lx.S_size]
        rw [hV] at CF CT
        have hVU : V.size ≤ U.size := by omega
        have hUN : U.size ≤ N := by omega
        have hUs2 : (U.size : Int) ≤ (s.size : Int) := by have := HSN.out; omega
        have HU := Lib.hid hU
        have HV := Lib.hid hV
        have HUS := Lib.hid hUs
        have HUL := Lib.hid hUl
        have HVS := Lib.hid hVs
        have Hu := Lib.hid hu
        have HNS := Lib.hid hN0
        rw [hU]
        have CU := Lib.hid fun w => unparted_any (U.extract V.size U.size) (by rw [Lx.S_ext, Lx.S_size]; simp; omega) w
        clear hU hV hUs hUl hVs hu hfl hmN hul hN0
        by_cases h0 : Lx.cnt (c :: r) = 0
        · have hdec : decide (Lx.cnt (c :: r) ≠ 0) = false := by rw [h0]; rfl
          rw [hdec] at CT
          have H0 := Lib.hid h0
          clear h0 hdec
          go_wp2_with (first
            | (go_at_call 15; refine (CF.out _).mono ?_; rintro e w4 ⟨rfl, rfl⟩)
            | (go_at_call 16; refine (CT.out _ (HK3.out.kept hB)).mono ?_; rintro e w5 ⟨⟨k, n, t, rfl, _⟩, hb5⟩; have HB5 := Lib.hid (hB.trans (hb5.mono hB.size)); clear hb5)
            | ((with_reducible refine wpList_store_blk badT ((HB2.out.kept HB5.out).alloc _) (fitsB 9 ((s.size : Int) - (U.size : Int))) ?_ ?_); exact rfl))
          try simp only [Exit.inBlock, Exit.then]
          refine bp_tmp_blk badT rfl rfl (((HB2.out.kept HB5.out).alloc _).row (ds := bdA 9 ((s.size : Int) - (U.size : Int))) rfl) rfl ⟨_, _, _, rfl, ?_, below_setRow (((HC2.out.trans (HB5.out.mono HC2.out.size))).alloc (by have := HC2.out.size; have := HB5.out.size; omega) _) (Nat.le_refl _) _⟩
          have h1 := HM.out.2.2
          rw [Lx.Tk_bad N m HM.out.1 (by rw [Hu.out]; simp) (by rw [Hu.out]; exact H0.out), Hu.out] at h1
          rw [HL.out, ← h1]
          refine ⟨rfl, rfl, ?_⟩
          have h2 := HSN.out
          have h3 := HUS.out
          have h4 := HNS.out
          omega
        · have hdec : decide (Lx.cnt (c :: r) ≠ 0) = true := decide_eq_true h0
          rw [hdec] at CT
          have H0 := Lib.hid h0
          obtain ⟨P, hP⟩ : ∃ P : Nat, s.size = P + U.size := ⟨s.size - U.size, by omega⟩
          have hPe : (s.size : Int) - (U.size : Int) = (P : Int) := by omega
          have HP := Lib.hid hP
          clear h0 hdec hP
          go_wp2_with (first
            | (go_at_call 15; refine (CF.out _).mono ?_; rintro e w4 ⟨rfl, rfl⟩)
            | (go_at_call 16; refine (CT.out _ (HK3.out.kept hB)).mono ?_; rintro e w5 ⟨⟨k, n, t, rfl, hkn⟩, hb5⟩; have HKN := Lib.hid hkn; have HB5 := Lib.hid (hB.trans (hb5.mono hB.size)); have HR5 := Lib.hid (own_below hrow hb5); clear hb5 hkn hrow)
            | (at_builtin; refine wpList_append_own _ rfl _ _ 45 rfl w2.heap.size 59 i0 (.agg #[.int .i64 0, .int .i64 0, .int .i64 0, .string ⟨#[]⟩]) 4 40 Tryd.underlying45 hi hz0 hz1 hz2 rfl (by decide) _ _ _ rfl ((HR5.out.alloc _).alloc _) ⟨w5.heap.size + 1, 0, none⟩ 1 1 (tkC ⟨k, P, n, t⟩) rfl rfl (by have h := cell4_new (w5.alloc (.cells #[.int .i64 k, .int .i64 (P : Int), .int .i64 n, .string (Lx.S t)] 59)) ⟨k, P, n, t⟩ 59; rw [World.size_alloc] at h; exact h) (by simp [tkC, Value.oneCell']) (by have h1 := HM.out.2.1; have h2 := HNS.out; unfold maxLen; omega) (by have h1 := HM.out.2.1; have h2 := HNS.out; omega) (by have := HB5.out.size; simp; omega) ?_; intro v' w7 hown' hgrow' hnil'; have HO7 := Lib.hid hown'; have HB7 := Lib.hid (((HB5.out.alloc HB5.out.size _).alloc (by have := HB5.out.size; simp; omega) _).grown hgrow' (by have := HB5.out.size; simp; omega) (own_ge HR5.out)); clear hown' hgrow' hnil')
            | (go_at_call 14; refine (CU.out _).mono ?_; rintro e w8 ⟨rfl, hb8⟩; have HO8 := Lib.hid (own_below HO7.out hb8); have HB8 := Lib.hid (HB7.out.trans (hb8.mono HB7.out.size)); clear hb8))
          have hc1 := Lx.cnt_fst c r H0.out
          have hcl := Lx.one_le 0 (c :: r)
          have hD : List.take (U.size - V.size) (List.drop V.size U.data.toList) = (c :: r).drop (Lx.cnt (c :: r)) := by
            rw [HUL.out, List.take_of_length_le (by rw [List.length_drop, HUS.out]; exact Nat.le_refl _), HVS.out, ← hc1]
          have hml : (c :: r).length ≤ m.length := by rw [← Hu.out]; exact Lx.left_le m
          have hdl : ((c :: r).drop (Lx.cnt (c :: r))).length = (c :: r).length - Lx.cnt (c :: r) := List.length_drop
          have hpos : 0 < Lx.cnt (c :: r) := Nat.pos_of_ne_zero H0.out
          have h1 := HM.out.1
          have h2 := HM.out.2.1
          have h3 := HM.out.2.2
          have hlen : 0 < (c :: r).length := by simp
          rw [hD]
          refine ⟨⟨done ++ [⟨k, P, n, t⟩], (c :: r).drop (Lx.cnt (c :: r)), rfl, Lib.hid ⟨by omega, by rw [List.length_append, List.length_singleton]; omega, ?_⟩, ?_, HB8.out⟩, ?_⟩
          · rw [Lx.Tk_good N m h1 (by rw [Hu.out]; simp) (by rw [Hu.out]; exact H0.out), Hu.out, Lx.join_step, HKN.out H0.out] at h3
            have hon : (⟨k, 0, n, t⟩ : Lx.Tok).on (N - (c :: r).length) = ⟨k, P, n, t⟩ := by
              unfold Lx.Tok.on
              have h4 := HSN.out
              have h5 := HP.out
              have h6 := HUS.out
              rw [show (0 + (N - (c :: r).length) : Nat) = P from by omega]
            rw [hon] at h3
            exact h3
          · have h4 := HO8.out
            rw [List.length_append, List.flatMap_append]
            simpa using h4
          · rw [Lib.strSize_string, Lib.strSize_string, Lx.S_size, HUS.out]
            have := Lx.left_le ((c :: r).drop (Lx.cnt (c :: r)))
            omega
end Go.Proofs.YtbnhegipdfkdgaaDoor
end
section
namespace Go.Proofs.YtbnhegipdfkdgaaDoor
open Go.ChangeShapes Go.WideShapes Go.ChangeAt Go.RowKit
set_option linter.unusedVariables false
set_option linter.unusedSimpArgs false

abbrev fnA (p : Int) (nm : List UInt8) (vp : Value) (h : Bool) (e l b : Int) (vb : Value) : Array Value := #[.int .i64 p, .string (Lx.S nm), vp, .bool h, .int .i64 e, .int .i64 l, .int .i64 b, vb]
theorem fnT : StructT 37 8 := ⟨⟨_, Tryd.underlying37⟩, by kernel_rfl⟩
theorem fnZ : Zero 37 (fnA 0 [] (.slice none 0 0) false 0 0 0 (.slice none 0 0)) := by unfold Zero; kernel_rfl
theorem fitsF {p e l b : Int} {s : ByteArray} {q1 q2 : Option Addr} {l1 l2 c1 c2 : Nat} {h : Bool} : Fits 8 #[.int .i64 p, .string s, .slice q1 l1 c1, .bool h, .int .i64 e, .int .i64 l, .int .i64 b, .slice q2 l2 c2] := ⟨rfl, by simp [Value.oneCell']⟩
/-- what a reader of a function hands back -/
def FNP (b : Nat) (L : List Lx.Tok) (r : Sx.F × Sx.R) (e : Ending) (J : List It) : Prop :=
  ∃ (p : Int) (nm : List UInt8) (hh : Bool) (te tl tb : Int) (q1 q2 : Option Addr) (l1 l2 c1 c2 : Nat) (ps : List Sx.Pa) (bs : List Sx.S), e = .returned (.agg (fnA p nm (.slice q1 l1 c1) hh te tl tb (.slice q2 l2 c2))) ∧ J = [rd b L r.2, psI (.slice q1 l1 c1) ps, ssI (.slice q2 l2 c2) bs] ∧ (r.2.err = 0 → r.1 = ⟨p, nm, ps, hh, ⟨te, tl, tb⟩, bs⟩)
theorem Sx.Bl_def (L : List Lx.Tok) (σ : Sx.R) : Sx.block L (Sx.fuel L) σ = Sx.Bl L σ := rfl
set_option maxHeartbeats 8000000 in
set_option maxRecDepth 100000 in
theorem function_no (b : Nat) (L : List Lx.Tok) (hL : Sx.Ok L) (σ : Sx.R) (ho : σ.opn = 0) (hse : Sx.sees L [58] (Sx.eat L [41] (Sx.plist L (Sx.eat L [40] (Sx.some L 1 (Sx.eat L Sx.wFn σ)).2)).2) = false) : Fn 18 #[.pointer (some ⟨b, 0, none⟩)] [rd b L σ] (FNP b L (Sx.function L σ)) := by
  intro w P hP h0
  have HS := Lib.hid (St.start hP h0)
  have C1 := Lib.hid (want_fn b L hL σ Sx.wFn (by decide))
  have C2 := Lib.hid (take_fn b L hL (Sx.eat L Sx.wFn σ) 1 (by decide))
  have hop : (Sx.some L 1 (Sx.eat L Sx.wFn σ)).2.opn = 0 := by rw [Sx.op_some, Sx.op_eat, ho]
  unfold Sx.function
  simp only [] at hse ⊢
  generalize Sx.some L 1 (Sx.eat L Sx.wFn σ) = sm at C2 hop hse ⊢
  obtain ⟨t, τ⟩ := sm
  simp only [] at C2 hop hse ⊢
  have C3 := Lib.hid (list_params b L hL τ 65536 rfl)
  obtain ⟨hp1, hp2⟩ := Sx.PA_all (L := L) τ hop
  rw [hp1, hp2] at C3
  generalize (Sx.plist L (Sx.eat L [40] τ)).1 = pl at C3 ⊢
  generalize Sx.eat L [41] (Sx.plist L (Sx.eat L [40] τ)).2 = ρ at C3 hse ⊢
  have C4 := Lib.hid (may_fn b L hL ρ [58] (by decide))
  have hmf : ∀ (fn : Go.Fn) (first cap : Array Value) (w : World), (Instr.makeFunc fn first cap).run Tryd.prog w = .ok (.func fn first cap) w := fun _ _ _ _ => rfl
  rw [Sx.may_no hse] at C4 ⊢
  have hres : Sx.res L (false, ρ) = (Sx.noTy, ρ) := rfl
  rw [hres]
  simp only [Sx.Bl_def]
  have C5 := Lib.hid (block_any b L hL ρ)
  have HOK := Lib.hid (fun h => Sx.Le.ok (Sx.le_Bl hL.ends ρ) h)
  clear h0 hP hL hse hp1 hp2 hop ho hres
  go_enter Tryd.func18, Tryd.ntmps18
  go_wp2_with (first
    | (first | (refine wpl_alloc HS.out _ rfl fnZ ?_; intro b1 w1 HS1; clear HS) | (refine wpl_alloc HS3.out _ rfl tokZ ?_; intro b4 w4 HS4; clear HS3) | (refine wpl_alloc HS5.out _ rfl fnZ ?_; intro b6 w6 HS6; clear HS5))
    | (go_at_call 28; refine (HS1.out.call1 C1.out).mono ?_; rintro e w2 ⟨J, ⟨rfl, rfl⟩, hs⟩; simp only [List.cons_append, List.nil_append] at hs; have HS2 := Lib.hid hs; clear hs; clear HS1)
    | (go_at_call 29; refine (HS2.out.call1 C2.out).mono ?_; rintro e w3 ⟨J, ⟨rfl, rfl⟩, hs⟩; simp only [List.cons_append, List.nil_append] at hs; have HS3 := Lib.hid hs; clear hs; clear HS2)
    | (first | (refine wpl_load HS5.out 1 rfl rfl intO rfl ?_) | (refine wpl_load HS5.out 1 rfl rfl strO rfl ?_))
    | (go_at_call 30; refine (HS7.out.call1 C3.out).mono ?_; rintro e w8 ⟨J, ⟨q5, l5, c5, ps, rfl, rfl, hx5⟩, hs⟩; simp only [List.cons_append, List.nil_append] at hs; have HX5 := Lib.hid hx5; have HS8 := Lib.hid hs; clear hs hx5 HS7)
    | (go_at_call 32; refine (HS9.out.call1 C4.out).mono ?_; rintro e w10 ⟨J, ⟨rfl, rfl⟩, hs⟩; simp only [List.cons_append, List.nil_append] at hs; have HS10 := Lib.hid hs; clear hs; clear HS9)
    | (refine wpl_load HS11.out 2 rfl rfl boolO rfl ?_)
    | (first | (refine wpl_storeS HS4.out 1 rfl rfl tokT rfl (fitsT _ _ _ _) ?_; intro w5 hs; have HS5 := Lib.hid (show St _ _ _ (_ :: _ :: _ :: []) from hs.out); clear hs HS4) | (refine wpl_storeS HS6.out 1 rfl rfl fnT rfl fitsF ?_; intro w7 hs; have HS7 := Lib.hid (show St _ _ _ (_ :: _ :: _ :: _ :: []) from hs.out); clear hs HS6) | (refine wpl_store HS8.out 2 rfl rfl paramsO (of_decide_eq_true rfl) rfl ?_; intro w9 hs; have HS9 := Lib.hid (show St _ _ _ (_ :: _ :: _ :: _ :: _ :: []) from hs.out); clear hs HS8) | (refine wpl_store HS10.out 2 rfl rfl boolO (of_decide_eq_true rfl) rfl ?_; intro w11 hs; have HS11 := Lib.hid (show St _ _ _ (_ :: _ :: _ :: _ :: _ :: []) from hs.out); clear hs HS10) | (refine wpl_store HS12.out 3 rfl rfl stmtsO (of_decide_eq_true rfl) rfl ?_; intro w13 hs; have HS13 := Lib.hid (show St _ _ _ (_ :: _ :: _ :: _ :: _ :: _ :: []) from hs.out); clear hs HS12) | (refine wpl_storeS HS13.out 5 rfl rfl fnT rfl fitsF ?_; intro w14 hs; have HS14 := Lib.hid (show St _ _ _ (_ :: _ :: _ :: _ :: _ :: _ :: []) from hs.out); clear hs HS13))
    | (go_at_call 35; refine (HS11.out.call1 C5.out).mono ?_; rintro e w12 ⟨J, ⟨q6, l6, c6, ss6, rfl, rfl, hx2⟩, hs⟩; simp only [List.cons_append, List.nil_append] at hs; have HX6 := Lib.hid hx2; have HS12 := Lib.hid hs; clear hs hx2 HS11)
    | (refine wpl_loadS HS13.out 3 rfl rfl fnT rfl ?_))
  refine bp_cell HS14.out 5 fnT rfl rfl rfl rfl rfl ⟨_, ⟨t.pos, t.text, false, 0, 0, 0, _, _, _, _, _, _, ps, ss6, rfl, rfl, fun h => ?_⟩, St.sel HS14.out [0, 1, 0] rfl⟩
  rw [← HX5.out (HOK.out h), ← HX6.out h]
  rfl
set_option maxHeartbeats 8000000 in
set_option maxRecDepth 100000 in
theorem function_has (b : Nat) (L : List Lx.Tok) (hL : Sx.Ok L) (σ : Sx.R) (ho : σ.opn = 0) (hse : Sx.sees L [58] (Sx.eat L [41] (Sx.plist L (Sx.eat L [40] (Sx.some L 1 (Sx.eat L Sx.wFn σ)).2)).2) = true) : Fn 18 #[.pointer (some ⟨b, 0, none⟩)] [rd b L σ] (FNP b L (Sx.function L σ)) := by
  intro w P hP h0
  have HS := Lib.hid (St.start hP h0)
  have C1 := Lib.hid (want_fn b L hL σ Sx.wFn (by decide))
  have C2 := Lib.hid (take_fn b L hL (Sx.eat L Sx.wFn σ) 1 (by decide))
  have hop : (Sx.some L 1 (Sx.eat L Sx.wFn σ)).2.opn = 0 := by rw [Sx.op_some, Sx.op_eat, ho]
  unfold Sx.function
  simp only [] at hse ⊢
  generalize Sx.some L 1 (Sx.eat L Sx.wFn σ) = sm at C2 hop hse ⊢
  obtain ⟨t, τ⟩ := sm
  simp only [] at C2 hop hse ⊢
  have C3 := Lib.hid (list_params b L hL τ 65536 rfl)
  obtain ⟨hp1, hp2⟩ := Sx.PA_all (L := L) τ hop
  rw [hp1, hp2] at C3
  generalize (Sx.plist L (Sx.eat L [40] τ)).1 = pl at C3 ⊢
  generalize Sx.eat L [41] (Sx.plist L (Sx.eat L [40] τ)).2 = ρ at C3 hse ⊢
  have C4 := Lib.hid (may_fn b L hL ρ [58] (by decide))
  have hmf : ∀ (fn : Go.Fn) (first cap : Array Value) (w : World), (Instr.makeFunc fn first cap).run Tryd.prog w = .ok (.func fn first cap) w := fun _ _ _ _ => rfl
  have her := (Sx.sees_text hse).1
  rw [Sx.may_is hse] at C4 ⊢
  have hres : Sx.res L (true, { ρ with at' := ρ.at' + 1 }) = Sx.type L true (Sx.label L { ρ with at' := ρ.at' + 1 }).1 (Sx.label L { ρ with at' := ρ.at' + 1 }).2 := rfl
  rw [hres]
  have C5 := Lib.hid (label_fn b L hL { ρ with at' := ρ.at' + 1 })
  generalize Sx.label L { ρ with at' := ρ.at' + 1 } = lb at C5 ⊢
  obtain ⟨lb, ρ2⟩ := lb
  simp only [] at C5 ⊢
  rw [Sx.type_scal]
  have C6 := Lib.hid (scalar_fn b L hL ρ2)
  generalize Sx.scal L ρ2 = sc at C6 ⊢
  obtain ⟨sc, ρ3⟩ := sc
  simp only [Sx.Bl_def] at C6 ⊢
  have C7 := Lib.hid (block_any b L hL ρ3)
  have HER := Lib.hid her
  clear h0 hP hL hse hp1 hp2 hop ho hres her
  go_enter Tryd.func18, Tryd.ntmps18
  go_wp2_with (first
    | (first | (refine wpl_alloc HS.out _ rfl fnZ ?_; intro b1 w1 HS1; clear HS) | (refine wpl_alloc HS3.out _ rfl tokZ ?_; intro b4 w4 HS4; clear HS3) | (refine wpl_alloc HS5.out _ rfl fnZ ?_; intro b6 w6 HS6; clear HS5))
    | (go_at_call 28; refine (HS1.out.call1 C1.out).mono ?_; rintro e w2 ⟨J, ⟨rfl, rfl⟩, hs⟩; simp only [List.cons_append, List.nil_append] at hs; have HS2 := Lib.hid hs; clear hs; clear HS1)
    | (go_at_call 29; refine (HS2.out.call1 C2.out).mono ?_; rintro e w3 ⟨J, ⟨rfl, rfl⟩, hs⟩; simp only [List.cons_append, List.nil_append] at hs; have HS3 := Lib.hid hs; clear hs; clear HS2)
    | (first | (refine wpl_load HS5.out 1 rfl rfl intO rfl ?_) | (refine wpl_load HS5.out 1 rfl rfl strO rfl ?_))
    | (go_at_call 30; refine (HS7.out.call1 C3.out).mono ?_; rintro e w8 ⟨J, ⟨q5, l5, c5, ps, rfl, rfl, hx5⟩, hs⟩; simp only [List.cons_append, List.nil_append] at hs; have HX5 := Lib.hid hx5; have HS8 := Lib.hid hs; clear hs hx5 HS7)
    | (go_at_call 32; refine (HS9.out.call1 C4.out).mono ?_; rintro e w10 ⟨J, ⟨rfl, rfl⟩, hs⟩; simp only [List.cons_append, List.nil_append] at hs; have HS10 := Lib.hid hs; clear hs; clear HS9)
    | (refine wpl_load HS11.out 2 rfl rfl boolO rfl ?_)
    | (first | (refine wpl_storeS HS4.out 1 rfl rfl tokT rfl (fitsT _ _ _ _) ?_; intro w5 hs; have HS5 := Lib.hid (show St _ _ _ (_ :: _ :: _ :: []) from hs.out); clear hs HS4) | (refine wpl_storeS HS6.out 1 rfl rfl fnT rfl fitsF ?_; intro w7 hs; have HS7 := Lib.hid (show St _ _ _ (_ :: _ :: _ :: _ :: []) from hs.out); clear hs HS6) | (refine wpl_store HS8.out 2 rfl rfl paramsO (of_decide_eq_true rfl) rfl ?_; intro w9 hs; have HS9 := Lib.hid (show St _ _ _ (_ :: _ :: _ :: _ :: _ :: []) from hs.out); clear hs HS8) | (refine wpl_store HS10.out 2 rfl rfl boolO (of_decide_eq_true rfl) rfl ?_; intro w11 hs; have HS11 := Lib.hid (show St _ _ _ (_ :: _ :: _ :: _ :: _ :: []) from hs.out); clear hs HS10) | (refine wpl_store HS12.out 2 rfl rfl intO (of_decide_eq_true rfl) rfl ?_; intro w13 hs; have HS13 := Lib.hid (show St _ _ _ (_ :: _ :: _ :: _ :: _ :: []) from hs.out); clear hs HS12) | (refine wpl_store HS14.out 2 rfl rfl intO (of_decide_eq_true rfl) rfl ?_; intro w15 hs; have HS15 := Lib.hid (show St _ _ _ (_ :: _ :: _ :: _ :: _ :: []) from hs.out); clear hs HS14) | (refine wpl_store HS16.out 3 rfl rfl stmtsO (of_decide_eq_true rfl) rfl ?_; intro w17 hs; have HS17 := Lib.hid (show St _ _ _ (_ :: _ :: _ :: _ :: _ :: _ :: []) from hs.out); clear hs HS16) | (refine wpl_storeS HS17.out 5 rfl rfl fnT rfl fitsF ?_; intro w18 hs; have HS18 := Lib.hid (show St _ _ _ (_ :: _ :: _ :: _ :: _ :: _ :: []) from hs.out); clear hs HS17))
    | (go_at_call 33; refine (HS11.out.call1 C5.out).mono ?_; rintro e w12 ⟨J, ⟨rfl, rfl⟩, hs⟩; simp only [List.cons_append, List.nil_append] at hs; have HS12 := Lib.hid hs; clear hs; clear HS11)
    | (go_at_call 34; refine (HS13.out.call1 C6.out).mono ?_; rintro e w14 ⟨J, ⟨rfl, rfl⟩, hs⟩; simp only [List.cons_append, List.nil_append] at hs; have HS14 := Lib.hid hs; clear hs; clear HS13)
    | (go_at_call 35; refine (HS15.out.call1 C7.out).mono ?_; rintro e w16 ⟨J, ⟨q6, l6, c6, ss6, rfl, rfl, hx2⟩, hs⟩; simp only [List.cons_append, List.nil_append] at hs; have HX6 := Lib.hid hx2; have HS16 := Lib.hid hs; clear hs hx2 HS15)
    | (refine wpl_loadS HS17.out 3 rfl rfl fnT rfl ?_))
  refine bp_cell HS18.out 5 fnT rfl rfl rfl rfl rfl ⟨_, ⟨t.pos, t.text, true, sc, 0, lb, _, _, _, _, _, _, ps, ss6, rfl, rfl, fun h => ?_⟩, St.sel HS18.out [0, 1, 0] rfl⟩
  rw [← HX5.out HER.out, ← HX6.out h]
theorem function_fn (b : Nat) (L : List Lx.Tok) (hL : Sx.Ok L) (σ : Sx.R) (ho : σ.opn = 0) : Fn 18 #[.pointer (some ⟨b, 0, none⟩)] [rd b L σ] (FNP b L (Sx.function L σ)) := by
  cases h : Sx.sees L [58] (Sx.eat L [41] (Sx.plist L (Sx.eat L [40] (Sx.some L 1 (Sx.eat L Sx.wFn σ)).2)).2)
  · exact function_no b L hL σ ho h
  · exact function_has b L hL σ ho h
end Go.Proofs.YtbnhegipdfkdgaaDoor
end
