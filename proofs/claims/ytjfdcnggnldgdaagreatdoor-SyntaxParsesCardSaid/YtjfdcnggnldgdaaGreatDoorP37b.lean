/-
What package lex's Lex returns, once more: the tokens' row is the call's own.
A function.
Functions in the heap, and a program.
-/
import Derived.Test.YtjfdcnggnldgdaaGreatDoorP11a
import Derived.Test.YtjfdcnggnldgdaaGreatDoorP35b
import Derived.Test.YtjfdcnggnldgdaaGreatDoorP24a
section
namespace Go.Proofs.YtjfdcnggnldgdaaGreatDoor
open Go.ChangeShapes Go.WideShapes Go.ChangeAt Go.RowKit
set_option linter.unusedVariables false
set_option linter.unusedSimpArgs false

/-- an answer of tokens in a row that lies at B or behind it, or an error and its place -/
def LexO (B : Nat) (W : World) (r : Except (Int × Nat) (List Lx.Tok)) (v : Value) (e p : Int) : Prop :=
  match r with
  | .error (q, n) => v = .slice none 0 0 ∧ e = q ∧ p = n
  | .ok ts => e = 0 ∧ p = 0 ∧ W.ownsRow B 77 4 v ts.length (ts.flatMap tkC)
theorem own_base {W : World} {B C : Nat} {e : TypeId} {size : Nat} {v : Value} {n : Nat} {xs : List Value} (h : W.ownsRow B e size v n xs) (hb : C ≤ B) : W.ownsRow C e size v n xs :=
  ⟨h.1, h.2.imp id fun ⟨g, cap, cur, h1, h2, h3, h4⟩ => ⟨g, cap, cur, h1, Nat.le_trans hb h2, h3, h4⟩⟩
set_option maxHeartbeats 8000000 in
set_option maxRecDepth 100000 in
theorem lex_own (s : ByteArray) (hs : s.size ≤ 281474976710656) (w : World) :
    Calls Tryz.prog 30 #[.string s] w fun e w' => ∃ (v : Value) (x p : Int), e = .returned (.tuple #[v, .agg (bdA x p)]) ∧ LexO w.heap.size w' (Lx.lex s.data.toList) v x p ∧ Below w.heap.size w w' := by
  obtain ⟨i0, hi, hz0, hz1, hz2⟩ := info_parts Tryz.infoTok
  have HB0 := Lib.hid (Blk.new w 27 (bdA 0 0))
  have HZ := Lib.hid (Lib.size_eq s)
  by_cases hbig : 65536 < s.size
  · have hbig' : (65536 : Int) < (s.size : Int) := by omega
    have HL := Lib.hid (Lx.lex_big s.data.toList (by rw [← HZ.out]; exact hbig))
    clear hz0 hz1 hz2 hi
    go_enter Tryz.func30, Tryz.ntmps30
    go_wp2_with (first
      | ((with_reducible refine wpList_store_blk badT HB0.out (fitsB 5 0) ?_ ?_); exact rfl))
    try simp only [Exit.inBlock, Exit.then]
    refine bp_tmp_blk badT rfl rfl (HB0.out.row (ds := bdA 5 0) rfl) rfl ⟨_, _, _, rfl, ?_, below_setRow ((Below.refl _ _).alloc (Nat.le_refl _) _) (Nat.le_refl _) _⟩
    rw [HL.out]; exact ⟨rfl, rfl, rfl⟩
  · have hbig' : ¬ (65536 : Int) < (s.size : Int) := by omega
    have HL := Lib.hid (Lx.lex_Tk s.data.toList (by rw [← HZ.out]; exact hbig))
    obtain ⟨N, hN⟩ : ∃ N, s.data.toList.length = N := ⟨_, rfl⟩
    rw [hN] at HL
    have hsN : s.size = N := by rw [Lib.size_eq]; exact hN
    have HSN := Lib.hid hsN
    obtain ⟨l, hl⟩ : ∃ l, s.data.toList = l := ⟨_, rfl⟩
    have C1 := Lib.hid words_any
    have C2 := Lib.hid fun w => unparted_any s hs w
    rw [hl] at C2 HL hN ⊢
    have HN := Lib.hid hN
    clear hl hN hsN
    go_enter Tryz.func30, Tryz.ntmps30
    go_wp2_with (first
      | (go_at_call 57; refine (C1.out _).mono ?_; rintro e w1 ⟨rfl, hk1, hb1⟩; have HK1 := Lib.hid hk1; have HB1 := Lib.hid (HB0.out.kept hb1); have HC1 := Lib.hid (bel_new hb1); clear hk1 hb1)
      | (go_at_call 58; refine (C2.out _).mono ?_; rintro e w2 ⟨rfl, hb2⟩; have HK2 := Lib.hid (HK1.out.kept hb2); have HB2 := Lib.hid (HB1.out.kept hb2); have HC2 := Lib.hid (HC1.out.trans (hb2.mono HC1.out.size)); clear hb2))
    have HK3 : Hid (KnownAt w2 (w.heap.size + 1)) := Lib.hid (by
      have h := HK2.out
      rwa [show (w.alloc (Obj.cells #[.int .i64 0, .int .i64 0] 27)).heap.size = w.heap.size + 1 from Array.size_push _] at h)
    clear HK1 HK2
    go_loopw [5, 6] (fun L6 R wr => ∃ (done : List Lx.Tok) (m : List UInt8), R = .string (Lx.S (Lx.left m)) ∧ Hid (m.length ≤ N ∧ done.length + m.length ≤ N ∧ Lx.join (.ok done) (Lx.Tk N m) = Lx.Tk N l) ∧ wr.ownsRow w2.heap.size 77 4 L6 done.length (done.flatMap tkC) ∧ Below w2.heap.size w2 wr) (fun _ R _ => Lib.strSize R)
    case atStart => exact ⟨[], l, rfl, Lib.hid ⟨by rw [HN.out]; exact Nat.le_refl _, by rw [HN.out]; simp, by cases Lx.Tk N l <;> rfl⟩, World.ownsRow_nil _ _ _ _, Below.refl _ _⟩
    case round =>
      obtain ⟨done, m, rfl, HM, hrow, hB⟩ := hrel
      rcases hu : Lx.left m with _ | ⟨c, r⟩
      · have hE : (Lx.S ([] : List UInt8)).toList.isEmpty = true := by rw [Lib.toList_data]; rfl
        have hN0 : N ≤ 65536 := by have := HSN.out; omega
        have HNS := Lib.hid hN0
        have Hu := Lib.hid hu
        have HRW := Lib.hid hrow
        have HBW := Lib.hid hB
        clear hu hN0 hrow hB
        go_wp2_with (first
          | (at_builtin; refine wpList_append_own _ rfl _ _ 64 rfl w2.heap.size 77 i0 (.agg #[.int .i64 0, .int .i64 0, .int .i64 0, .string ⟨#[]⟩]) 4 40 Tryz.underlying64 hi hz0 hz1 hz2 rfl (by decide) _ _ _ rfl (HRW.out.alloc _) ⟨wr.heap.size, 0, none⟩ 1 1 (tkC ⟨0, s.size, 0, []⟩) rfl rfl (cell4_new wr ⟨0, s.size, 0, []⟩ 77) (by simp [tkC, Value.oneCell']) (by have h1 := HM.out.2.1; have h2 := HNS.out; unfold maxLen; omega) (by have h1 := HM.out.2.1; have h2 := HNS.out; omega) (by have := HBW.out.size; simp; omega) ?_; intro v' w7 hown' hgrow' hnil'; have HO7 := Lib.hid hown'; have HB7 := Lib.hid ((HBW.out.alloc HBW.out.size _).grown hgrow' (by have := HBW.out.size; simp; omega) (own_ge HRW.out)); clear hown' hgrow' hnil')
          | ((with_reducible refine wpList_store_blk badT (HB2.out.kept HB7.out) (fitsB 0 0) ?_ ?_); exact rfl))
        try simp only [Exit.inBlock, Exit.then]
        refine bp_tmp_blk badT rfl rfl ((HB2.out.kept HB7.out).row (ds := bdA 0 0) rfl) rfl ⟨_, _, _, rfl, ?_, below_setRow (HC2.out.trans (HB7.out.mono HC2.out.size)) (Nat.le_refl _) _⟩
        have h1 := HM.out.2.2
        rw [Lx.Tk_end N m Hu.out] at h1
        rw [HL.out, ← h1]
        have h4 := HO7.out
        have h5 : (done ++ [(⟨0, N, 0, []⟩ : Lx.Tok)]).flatMap tkC = done.flatMap tkC ++ tkC ⟨0, s.size, 0, []⟩ := by
          rw [List.flatMap_append, HSN.out]; simp
        have h6 : (done ++ [(⟨0, N, 0, []⟩ : Lx.Tok)]).length = done.length + 1 := by simp
        rw [← h5, ← h6] at h4
        have h7 := own_setRow h4 (b := w.heap.size) (by have := (HB2.out).lt; exact this) (bdA 0 0)
        show _ ∧ _ ∧ World.ownsRow _ _ _ _ _ ((done ++ []) ++ [_]).length (((done ++ []) ++ [_]).flatMap tkC)
        rw [List.append_nil]
        exact ⟨rfl, rfl, own_base h7 HC2.out.size⟩
      · have hul : (c :: r).length ≤ m.length := by rw [← hu]; exact Lx.left_le m
        have hN0 : N ≤ 65536 := by have := HSN.out; omega
        have hmN := HM.out.1
        obtain ⟨U, hU⟩ : ∃ U, Lx.S (c :: r) = U := ⟨_, rfl⟩
        have hUs : U.size = (c :: r).length := by rw [← hU, Lx.S_size]
        have hUl : U.data.toList = c :: r := by rw [← hU]; rfl
        have hUp : 0 < U.size := by rw [hUs]; simp
        have hUe := Lx.isEmpty U hUp
        have CF := Lib.hid fun w => first_any U (by omega) w
        rw [hUl] at CF
        have CT := Lib.hid fun w' hk => token_any c r (by omega) (w.heap.size + 1) w' hk
        have hfl := Lx.fst_le (c :: r)
        obtain ⟨V, hV⟩ : ∃ V, Lx.S (Lx.fst (c :: r)) = V := ⟨_, rfl⟩
        have hVs : V.size = (Lx.fst (c :: r)).length := by rw [← hV, Lx.S_size]
        rw [hV] at CF CT
        have hVU : V.size ≤ U.size := by omega
        have hUN : U.size ≤ N := by omega
        have hUs2 : (U.size : Int) ≤ (s.size : Int) := by have := HSN.out; omega
        have HU := Lib.hid hU
        have HV := Lib.hid hV
        have HUS := Lib.hid hUs
        have HUL := Lib.hid hUl
        have HVS := Lib.hid hVs
        have Hu := Lib.hid hu
        have HNS := Lib.hid hN0
        rw [hU]
        have CU := Lib.hid fun w => unparted_any (U.extract V.size U.size) (by rw [Lx.S_ext, Lx.S_size]; simp; omega) w
        clear hU hV hUs hUl hVs hu hfl hmN hul hN0
        by_cases h0 : Lx.cnt (c :: r) = 0
        · have hdec : decide (Lx.cnt (c :: r) ≠ 0) = false := by rw [h0]; rfl
          rw [hdec] at CT
          have H0 := Lib.hid h0
          clear h0 hdec
          go_wp2_with (first
            | (go_at_call 59; refine (CF.out _).mono ?_; rintro e w4 ⟨rfl, rfl⟩)
            | (go_at_call 60; refine (CT.out _ (HK3.out.kept hB)).mono ?_; rintro e w5 ⟨⟨k, n, t, rfl, _⟩, hb5⟩; have HB5 := Lib.hid (hB.trans (hb5.mono hB.size)); clear hb5)
            | ((with_reducible refine wpList_store_blk badT ((HB2.out.kept HB5.out).alloc _) (fitsB 9 ((s.size : Int) - (U.size : Int))) ?_ ?_); exact rfl))
          try simp only [Exit.inBlock, Exit.then]
          refine bp_tmp_blk badT rfl rfl (((HB2.out.kept HB5.out).alloc _).row (ds := bdA 9 ((s.size : Int) - (U.size : Int))) rfl) rfl ⟨_, _, _, rfl, ?_, below_setRow (((HC2.out.trans (HB5.out.mono HC2.out.size))).alloc (by have := HC2.out.size; have := HB5.out.size; omega) _) (Nat.le_refl _) _⟩
          have h1 := HM.out.2.2
          rw [Lx.Tk_bad N m HM.out.1 (by rw [Hu.out]; simp) (by rw [Hu.out]; exact H0.out), Hu.out] at h1
          rw [HL.out, ← h1]
          refine ⟨rfl, rfl, ?_⟩
          have h2 := HSN.out
          have h3 := HUS.out
          have h4 := HNS.out
          omega
        · have hdec : decide (Lx.cnt (c :: r) ≠ 0) = true := decide_eq_true h0
          rw [hdec] at CT
          have H0 := Lib.hid h0
          obtain ⟨P, hP⟩ : ∃ P : Nat, s.size = P + U.size := ⟨s.size - U.size, by omega⟩
          have hPe : (s.size : Int) - (U.size : Int) = (P : Int) := by omega
          have HP := Lib.hid hP
          clear h0 hdec hP
          go_wp2_with (first
            | (go_at_call 59; refine (CF.out _).mono ?_; rintro e w4 ⟨rfl, rfl⟩)
            | (go_at_call 60; refine (CT.out _ (HK3.out.kept hB)).mono ?_; rintro e w5 ⟨⟨k, n, t, rfl, hkn⟩, hb5⟩; have HKN := Lib.hid hkn; have HB5 := Lib.hid (hB.trans (hb5.mono hB.size)); have HR5 := Lib.hid (own_below hrow hb5); clear hb5 hkn hrow)
            | (at_builtin; refine wpList_append_own _ rfl _ _ 64 rfl w2.heap.size 77 i0 (.agg #[.int .i64 0, .int .i64 0, .int .i64 0, .string ⟨#[]⟩]) 4 40 Tryz.underlying64 hi hz0 hz1 hz2 rfl (by decide) _ _ _ rfl ((HR5.out.alloc _).alloc _) ⟨w5.heap.size + 1, 0, none⟩ 1 1 (tkC ⟨k, P, n, t⟩) rfl rfl (by have h := cell4_new (w5.alloc (.cells #[.int .i64 k, .int .i64 (P : Int), .int .i64 n, .string (Lx.S t)] 77)) ⟨k, P, n, t⟩ 77; rw [World.size_alloc] at h; exact h) (by simp [tkC, Value.oneCell']) (by have h1 := HM.out.2.1; have h2 := HNS.out; unfold maxLen; omega) (by have h1 := HM.out.2.1; have h2 := HNS.out; omega) (by have := HB5.out.size; simp; omega) ?_; intro v' w7 hown' hgrow' hnil'; have HO7 := Lib.hid hown'; have HB7 := Lib.hid (((HB5.out.alloc HB5.out.size _).alloc (by have := HB5.out.size; simp; omega) _).grown hgrow' (by have := HB5.out.size; simp; omega) (own_ge HR5.out)); clear hown' hgrow' hnil')
            | (go_at_call 58; refine (CU.out _).mono ?_; rintro e w8 ⟨rfl, hb8⟩; have HO8 := Lib.hid (own_below HO7.out hb8); have HB8 := Lib.hid (HB7.out.trans (hb8.mono HB7.out.size)); clear hb8))
          have hc1 := Lx.cnt_fst c r H0.out
          have hcl := Lx.one_le 0 (c :: r)
          have hD : List.take (U.size - V.size) (List.drop V.size U.data.toList) = (c :: r).drop (Lx.cnt (c :: r)) := by
            rw [HUL.out, List.take_of_length_le (by rw [List.length_drop, HUS.out]; exact Nat.le_refl _), HVS.out, ← hc1]
          have hml : (c :: r).length ≤ m.length := by rw [← Hu.out]; exact Lx.left_le m
          have hdl : ((c :: r).drop (Lx.cnt (c :: r))).length = (c :: r).length - Lx.cnt (c :: r) := List.length_drop
          have hpos : 0 < Lx.cnt (c :: r) := Nat.pos_of_ne_zero H0.out
          have h1 := HM.out.1
          have h2 := HM.out.2.1
          have h3 := HM.out.2.2
          have hlen : 0 < (c :: r).length := by simp
          rw [hD]
          refine ⟨⟨done ++ [⟨k, P, n, t⟩], (c :: r).drop (Lx.cnt (c :: r)), rfl, Lib.hid ⟨by omega, by rw [List.length_append, List.length_singleton]; omega, ?_⟩, ?_, HB8.out⟩, ?_⟩
          · rw [Lx.Tk_good N m h1 (by rw [Hu.out]; simp) (by rw [Hu.out]; exact H0.out), Hu.out, Lx.join_step, HKN.out H0.out] at h3
            have hon : (⟨k, 0, n, t⟩ : Lx.Tok).on (N - (c :: r).length) = ⟨k, P, n, t⟩ := by
              unfold Lx.Tok.on
              have h4 := HSN.out
              have h5 := HP.out
              have h6 := HUS.out
              rw [show (0 + (N - (c :: r).length) : Nat) = P from by omega]
            rw [hon] at h3
            exact h3
          · have h4 := HO8.out
            rw [List.length_append, List.flatMap_append]
            simpa using h4
          · rw [Lib.strSize_string, Lib.strSize_string, Lx.S_size, HUS.out]
            have := Lx.left_le ((c :: r).drop (Lx.cnt (c :: r)))
            omega
end Go.Proofs.YtjfdcnggnldgdaaGreatDoor
end
section
namespace Go.Proofs.YtjfdcnggnldgdaaGreatDoor
open Go.ChangeShapes Go.WideShapes Go.ChangeAt Go.RowKit
set_option linter.unusedVariables false
set_option linter.unusedSimpArgs false

abbrev fnA (p : Int) (nm : List UInt8) (vp : Value) (h : Bool) (e l b : Int) (vb : Value) : Array Value := #[.int .i64 p, .string (Lx.S nm), vp, .bool h, .int .i64 e, .int .i64 l, .int .i64 b, vb]
theorem fnT : StructT 50 8 := ⟨⟨_, Tryz.underlying50⟩, by kernel_rfl⟩
theorem fnZ : Zero 50 (fnA 0 [] (.slice none 0 0) false 0 0 0 (.slice none 0 0)) := by unfold Zero; kernel_rfl
theorem fitsF {p e l b : Int} {s : ByteArray} {q1 q2 : Option Addr} {l1 l2 c1 c2 : Nat} {h : Bool} : Fits 8 #[.int .i64 p, .string s, .slice q1 l1 c1, .bool h, .int .i64 e, .int .i64 l, .int .i64 b, .slice q2 l2 c2] := ⟨rfl, by simp [Value.oneCell']⟩
/-- what a reader of a function hands back -/
def FNP (b : Nat) (L : List Lx.Tok) (r : Sx.F × Sx.R) (e : Ending) (J : List It) : Prop :=
  ∃ (p : Int) (nm : List UInt8) (hh : Bool) (te tl tb : Int) (q1 q2 : Option Addr) (l1 l2 c1 c2 : Nat) (ps : List Sx.Pa) (bs : List Sx.S), e = .returned (.agg (fnA p nm (.slice q1 l1 c1) hh te tl tb (.slice q2 l2 c2))) ∧ J = [rd b L r.2, psI (.slice q1 l1 c1) ps, ssI (.slice q2 l2 c2) bs] ∧ (r.2.err = 0 → r.1 = ⟨p, nm, ps, hh, ⟨te, tl, tb⟩, bs⟩)
theorem Sx.Bl_def (L : List Lx.Tok) (σ : Sx.R) : Sx.block L (Sx.fuel L) σ = Sx.Bl L σ := rfl
set_option maxHeartbeats 8000000 in
set_option maxRecDepth 100000 in
theorem function_no (b : Nat) (L : List Lx.Tok) (hL : Sx.Ok L) (σ : Sx.R) (ho : σ.opn = 0) (hse : Sx.sees L [58] (Sx.eat L [41] (Sx.plist L (Sx.eat L [40] (Sx.some L 1 (Sx.eat L Sx.wFn σ)).2)).2) = false) : Fn 62 #[.pointer (some ⟨b, 0, none⟩)] [rd b L σ] (FNP b L (Sx.function L σ)) := by
  intro w P hP h0
  have HS := Lib.hid (St.start hP h0)
  have C1 := Lib.hid (want_fn b L hL σ Sx.wFn (by decide))
  have C2 := Lib.hid (take_fn b L hL (Sx.eat L Sx.wFn σ) 1 (by decide))
  have hop : (Sx.some L 1 (Sx.eat L Sx.wFn σ)).2.opn = 0 := by rw [Sx.op_some, Sx.op_eat, ho]
  unfold Sx.function
  simp only [] at hse ⊢
  generalize Sx.some L 1 (Sx.eat L Sx.wFn σ) = sm at C2 hop hse ⊢
  obtain ⟨t, τ⟩ := sm
  simp only [] at C2 hop hse ⊢
  have C3 := Lib.hid (list_params b L hL τ 65536 rfl)
  obtain ⟨hp1, hp2⟩ := Sx.PA_all (L := L) τ hop
  rw [hp1, hp2] at C3
  generalize (Sx.plist L (Sx.eat L [40] τ)).1 = pl at C3 ⊢
  generalize Sx.eat L [41] (Sx.plist L (Sx.eat L [40] τ)).2 = ρ at C3 hse ⊢
  have C4 := Lib.hid (may_fn b L hL ρ [58] (by decide))
  have hmf : ∀ (fn : Go.Fn) (first cap : Array Value) (w : World), (Instr.makeFunc fn first cap).run Tryz.prog w = .ok (.func fn first cap) w := fun _ _ _ _ => rfl
  rw [Sx.may_no hse] at C4 ⊢
  have hres : Sx.res L (false, ρ) = (Sx.noTy, ρ) := rfl
  rw [hres]
  simp only [Sx.Bl_def]
  have C5 := Lib.hid (block_any b L hL ρ)
  have HOK := Lib.hid (fun h => Sx.Le.ok (Sx.le_Bl hL.ends ρ) h)
  clear h0 hP hL hse hp1 hp2 hop ho hres
  go_enter Tryz.func62, Tryz.ntmps62
  go_wp2_with (first
    | (first | (refine wpl_alloc HS.out _ rfl fnZ ?_; intro b1 w1 HS1; clear HS) | (refine wpl_alloc HS3.out _ rfl tokZ ?_; intro b4 w4 HS4; clear HS3) | (refine wpl_alloc HS5.out _ rfl fnZ ?_; intro b6 w6 HS6; clear HS5))
    | (go_at_call 117; refine (HS1.out.call1 C1.out).mono ?_; rintro e w2 ⟨J, ⟨rfl, rfl⟩, hs⟩; simp only [List.cons_append, List.nil_append] at hs; have HS2 := Lib.hid hs; clear hs; clear HS1)
    | (go_at_call 118; refine (HS2.out.call1 C2.out).mono ?_; rintro e w3 ⟨J, ⟨rfl, rfl⟩, hs⟩; simp only [List.cons_append, List.nil_append] at hs; have HS3 := Lib.hid hs; clear hs; clear HS2)
    | (first | (refine wpl_load HS5.out 1 rfl rfl intO rfl ?_) | (refine wpl_load HS5.out 1 rfl rfl strO rfl ?_))
    | (go_at_call 119; refine (HS7.out.call1 C3.out).mono ?_; rintro e w8 ⟨J, ⟨q5, l5, c5, ps, rfl, rfl, hx5⟩, hs⟩; simp only [List.cons_append, List.nil_append] at hs; have HX5 := Lib.hid hx5; have HS8 := Lib.hid hs; clear hs hx5 HS7)
    | (go_at_call 121; refine (HS9.out.call1 C4.out).mono ?_; rintro e w10 ⟨J, ⟨rfl, rfl⟩, hs⟩; simp only [List.cons_append, List.nil_append] at hs; have HS10 := Lib.hid hs; clear hs; clear HS9)
    | (refine wpl_load HS11.out 2 rfl rfl boolO rfl ?_)
    | (first | (refine wpl_storeS HS4.out 1 rfl rfl tokT rfl (fitsT _ _ _ _) ?_; intro w5 hs; have HS5 := Lib.hid (show St _ _ _ (_ :: _ :: _ :: []) from hs.out); clear hs HS4) | (refine wpl_storeS HS6.out 1 rfl rfl fnT rfl fitsF ?_; intro w7 hs; have HS7 := Lib.hid (show St _ _ _ (_ :: _ :: _ :: _ :: []) from hs.out); clear hs HS6) | (refine wpl_store HS8.out 2 rfl rfl paramsO (of_decide_eq_true rfl) rfl ?_; intro w9 hs; have HS9 := Lib.hid (show St _ _ _ (_ :: _ :: _ :: _ :: _ :: []) from hs.out); clear hs HS8) | (refine wpl_store HS10.out 2 rfl rfl boolO (of_decide_eq_true rfl) rfl ?_; intro w11 hs; have HS11 := Lib.hid (show St _ _ _ (_ :: _ :: _ :: _ :: _ :: []) from hs.out); clear hs HS10) | (refine wpl_store HS12.out 3 rfl rfl stmtsO (of_decide_eq_true rfl) rfl ?_; intro w13 hs; have HS13 := Lib.hid (show St _ _ _ (_ :: _ :: _ :: _ :: _ :: _ :: []) from hs.out); clear hs HS12) | (refine wpl_storeS HS13.out 5 rfl rfl fnT rfl fitsF ?_; intro w14 hs; have HS14 := Lib.hid (show St _ _ _ (_ :: _ :: _ :: _ :: _ :: _ :: []) from hs.out); clear hs HS13))
    | (go_at_call 124; refine (HS11.out.call1 C5.out).mono ?_; rintro e w12 ⟨J, ⟨q6, l6, c6, ss6, rfl, rfl, hx2⟩, hs⟩; simp only [List.cons_append, List.nil_append] at hs; have HX6 := Lib.hid hx2; have HS12 := Lib.hid hs; clear hs hx2 HS11)
    | (refine wpl_loadS HS13.out 3 rfl rfl fnT rfl ?_))
  refine bp_cell HS14.out 5 fnT rfl rfl rfl rfl rfl ⟨_, ⟨t.pos, t.text, false, 0, 0, 0, _, _, _, _, _, _, ps, ss6, rfl, rfl, fun h => ?_⟩, St.sel HS14.out [0, 1, 0] rfl⟩
  rw [← HX5.out (HOK.out h), ← HX6.out h]
  rfl
set_option maxHeartbeats 8000000 in
set_option maxRecDepth 100000 in
theorem function_has (b : Nat) (L : List Lx.Tok) (hL : Sx.Ok L) (σ : Sx.R) (ho : σ.opn = 0) (hse : Sx.sees L [58] (Sx.eat L [41] (Sx.plist L (Sx.eat L [40] (Sx.some L 1 (Sx.eat L Sx.wFn σ)).2)).2) = true) : Fn 62 #[.pointer (some ⟨b, 0, none⟩)] [rd b L σ] (FNP b L (Sx.function L σ)) := by
  intro w P hP h0
  have HS := Lib.hid (St.start hP h0)
  have C1 := Lib.hid (want_fn b L hL σ Sx.wFn (by decide))
  have C2 := Lib.hid (take_fn b L hL (Sx.eat L Sx.wFn σ) 1 (by decide))
  have hop : (Sx.some L 1 (Sx.eat L Sx.wFn σ)).2.opn = 0 := by rw [Sx.op_some, Sx.op_eat, ho]
  unfold Sx.function
  simp only [] at hse ⊢
  generalize Sx.some L 1 (Sx.eat L Sx.wFn σ) = sm at C2 hop hse ⊢
  obtain ⟨t, τ⟩ := sm
  simp only [] at C2 hop hse ⊢
  have C3 := Lib.hid (list_params b L hL τ 65536 rfl)
  obtain ⟨hp1, hp2⟩ := Sx.PA_all (L := L) τ hop
  rw [hp1, hp2] at C3
  generalize (Sx.plist L (Sx.eat L [40] τ)).1 = pl at C3 ⊢
  generalize Sx.eat L [41] (Sx.plist L (Sx.eat L [40] τ)).2 = ρ at C3 hse ⊢
  have C4 := Lib.hid (may_fn b L hL ρ [58] (by decide))
  have hmf : ∀ (fn : Go.Fn) (first cap : Array Value) (w : World), (Instr.makeFunc fn first cap).run Tryz.prog w = .ok (.func fn first cap) w := fun _ _ _ _ => rfl
  have her := (Sx.sees_text hse).1
  rw [Sx.may_is hse] at C4 ⊢
  have hres : Sx.res L (true, { ρ with at' := ρ.at' + 1 }) = Sx.type L true (Sx.label L { ρ with at' := ρ.at' + 1 }).1 (Sx.label L { ρ with at' := ρ.at' + 1 }).2 := rfl
  rw [hres]
  have C5 := Lib.hid (label_fn b L hL { ρ with at' := ρ.at' + 1 })
  generalize Sx.label L { ρ with at' := ρ.at' + 1 } = lb at C5 ⊢
  obtain ⟨lb, ρ2⟩ := lb
  simp only [] at C5 ⊢
  rw [Sx.type_scal]
  have C6 := Lib.hid (scalar_fn b L hL ρ2)
  generalize Sx.scal L ρ2 = sc at C6 ⊢
  obtain ⟨sc, ρ3⟩ := sc
  simp only [Sx.Bl_def] at C6 ⊢
  have C7 := Lib.hid (block_any b L hL ρ3)
  have HER := Lib.hid her
  clear h0 hP hL hse hp1 hp2 hop ho hres her
  go_enter Tryz.func62, Tryz.ntmps62
  go_wp2_with (first
    | (first | (refine wpl_alloc HS.out _ rfl fnZ ?_; intro b1 w1 HS1; clear HS) | (refine wpl_alloc HS3.out _ rfl tokZ ?_; intro b4 w4 HS4; clear HS3) | (refine wpl_alloc HS5.out _ rfl fnZ ?_; intro b6 w6 HS6; clear HS5))
    | (go_at_call 117; refine (HS1.out.call1 C1.out).mono ?_; rintro e w2 ⟨J, ⟨rfl, rfl⟩, hs⟩; simp only [List.cons_append, List.nil_append] at hs; have HS2 := Lib.hid hs; clear hs; clear HS1)
    | (go_at_call 118; refine (HS2.out.call1 C2.out).mono ?_; rintro e w3 ⟨J, ⟨rfl, rfl⟩, hs⟩; simp only [List.cons_append, List.nil_append] at hs; have HS3 := Lib.hid hs; clear hs; clear HS2)
    | (first | (refine wpl_load HS5.out 1 rfl rfl intO rfl ?_) | (refine wpl_load HS5.out 1 rfl rfl strO rfl ?_))
    | (go_at_call 119; refine (HS7.out.call1 C3.out).mono ?_; rintro e w8 ⟨J, ⟨q5, l5, c5, ps, rfl, rfl, hx5⟩, hs⟩; simp only [List.cons_append, List.nil_append] at hs; have HX5 := Lib.hid hx5; have HS8 := Lib.hid hs; clear hs hx5 HS7)
    | (go_at_call 121; refine (HS9.out.call1 C4.out).mono ?_; rintro e w10 ⟨J, ⟨rfl, rfl⟩, hs⟩; simp only [List.cons_append, List.nil_append] at hs; have HS10 := Lib.hid hs; clear hs; clear HS9)
    | (refine wpl_load HS11.out 2 rfl rfl boolO rfl ?_)
    | (first | (refine wpl_storeS HS4.out 1 rfl rfl tokT rfl (fitsT _ _ _ _) ?_; intro w5 hs; have HS5 := Lib.hid (show St _ _ _ (_ :: _ :: _ :: []) from hs.out); clear hs HS4) | (refine wpl_storeS HS6.out 1 rfl rfl fnT rfl fitsF ?_; intro w7 hs; have HS7 := Lib.hid (show St _ _ _ (_ :: _ :: _ :: _ :: []) from hs.out); clear hs HS6) | (refine wpl_store HS8.out 2 rfl rfl paramsO (of_decide_eq_true rfl) rfl ?_; intro w9 hs; have HS9 := Lib.hid (show St _ _ _ (_ :: _ :: _ :: _ :: _ :: []) from hs.out); clear hs HS8) | (refine wpl_store HS10.out 2 rfl rfl boolO (of_decide_eq_true rfl) rfl ?_; intro w11 hs; have HS11 := Lib.hid (show St _ _ _ (_ :: _ :: _ :: _ :: _ :: []) from hs.out); clear hs HS10) | (refine wpl_store HS12.out 2 rfl rfl intO (of_decide_eq_true rfl) rfl ?_; intro w13 hs; have HS13 := Lib.hid (show St _ _ _ (_ :: _ :: _ :: _ :: _ :: []) from hs.out); clear hs HS12) | (refine wpl_store HS14.out 2 rfl rfl intO (of_decide_eq_true rfl) rfl ?_; intro w15 hs; have HS15 := Lib.hid (show St _ _ _ (_ :: _ :: _ :: _ :: _ :: []) from hs.out); clear hs HS14) | (refine wpl_store HS16.out 3 rfl rfl stmtsO (of_decide_eq_true rfl) rfl ?_; intro w17 hs; have HS17 := Lib.hid (show St _ _ _ (_ :: _ :: _ :: _ :: _ :: _ :: []) from hs.out); clear hs HS16) | (refine wpl_storeS HS17.out 5 rfl rfl fnT rfl fitsF ?_; intro w18 hs; have HS18 := Lib.hid (show St _ _ _ (_ :: _ :: _ :: _ :: _ :: _ :: []) from hs.out); clear hs HS17))
    | (go_at_call 122; refine (HS11.out.call1 C5.out).mono ?_; rintro e w12 ⟨J, ⟨rfl, rfl⟩, hs⟩; simp only [List.cons_append, List.nil_append] at hs; have HS12 := Lib.hid hs; clear hs; clear HS11)
    | (go_at_call 123; refine (HS13.out.call1 C6.out).mono ?_; rintro e w14 ⟨J, ⟨rfl, rfl⟩, hs⟩; simp only [List.cons_append, List.nil_append] at hs; have HS14 := Lib.hid hs; clear hs; clear HS13)
    | (go_at_call 124; refine (HS15.out.call1 C7.out).mono ?_; rintro e w16 ⟨J, ⟨q6, l6, c6, ss6, rfl, rfl, hx2⟩, hs⟩; simp only [List.cons_append, List.nil_append] at hs; have HX6 := Lib.hid hx2; have HS16 := Lib.hid hs; clear hs hx2 HS15)
    | (refine wpl_loadS HS17.out 3 rfl rfl fnT rfl ?_))
  refine bp_cell HS18.out 5 fnT rfl rfl rfl rfl rfl ⟨_, ⟨t.pos, t.text, true, sc, 0, lb, _, _, _, _, _, _, ps, ss6, rfl, rfl, fun h => ?_⟩, St.sel HS18.out [0, 1, 0] rfl⟩
  rw [← HX5.out HER.out, ← HX6.out h]
theorem function_fn (b : Nat) (L : List Lx.Tok) (hL : Sx.Ok L) (σ : Sx.R) (ho : σ.opn = 0) : Fn 62 #[.pointer (some ⟨b, 0, none⟩)] [rd b L σ] (FNP b L (Sx.function L σ)) := by
  cases h : Sx.sees L [58] (Sx.eat L [41] (Sx.plist L (Sx.eat L [40] (Sx.some L 1 (Sx.eat L Sx.wFn σ)).2)).2)
  · exact function_no b L hL σ ho h
  · exact function_has b L hL σ ho h
end Go.Proofs.YtjfdcnggnldgdaaGreatDoor
end
section
namespace Go.Proofs.YtjfdcnggnldgdaaGreatDoor
open Go.ChangeShapes Go.WideShapes Go.ChangeAt Go.RowKit
set_option linter.unusedVariables false
set_option linter.unusedSimpArgs false

/-- cells that are a function -/
def fnOn (w : World) (P : Nat → Prop) (f : Sx.F) (xs : List Value) : Prop :=
  ∃ vp vb xb, xs = (fnA f.pos f.name vp f.has f.result.elem f.result.len f.result.label vb).toList ∧ OwnP w P 81 6 vp f.params.length (f.params.flatMap paL) ∧ (OwnP w P 53 11 vb f.body.length xb ∧ slOn w P f.body xb)
def flOn (w : World) (P : Nat → Prop) : List Sx.F → List Value → Prop
  | [], xs => xs = []
  | f :: fs, xs => ∃ c r, xs = c ++ r ∧ fnOn w P f c ∧ flOn w P fs r
theorem fnOn_mono {w w' : World} {P P' : Nat → Prop} (e : ∀ k, P k → w'.heap[k]? = w.heap[k]?) (f : ∀ k, P k → P' k) {x : Sx.F} {cs : List Value} (h : fnOn w P x cs) : fnOn w' P' x cs := by
  obtain ⟨vp, vb, xb, h1, h2, h3, h4⟩ := h
  exact ⟨vp, vb, xb, h1, h2.mono e f, h3.mono e f, slOn_mono e f _ xb h4⟩
theorem flOn_mono {w w' : World} {P P' : Nat → Prop} (e : ∀ k, P k → w'.heap[k]? = w.heap[k]?) (f : ∀ k, P k → P' k) : ∀ (l : List Sx.F) (xs : List Value), flOn w P l xs → flOn w' P' l xs
  | [], xs, h => h
  | x :: fs, xs, ⟨c, r, h1, h2, h3⟩ => ⟨c, r, h1, fnOn_mono e f h2, flOn_mono e f fs r h3⟩
theorem flOn_app {w : World} {P : Nat → Prop} : ∀ (l l' : List Sx.F) (xs ys : List Value), flOn w P l xs → flOn w P l' ys → flOn w P (l ++ l') (xs ++ ys)
  | [], l', xs, ys, h, h' => by subst h; exact h'
  | x :: fs, l', xs, ys, ⟨c, r, h1, h2, h3⟩, h' => ⟨c, r ++ ys, by rw [h1, List.append_assoc], h2, flOn_app fs l' r ys h3 h'⟩
theorem flOn_one {w : World} {P : Nat → Prop} {x : Sx.F} {c : List Value} (h : fnOn w P x c) : flOn w P [x] c := ⟨c, [], by rw [List.append_nil], h, rfl⟩
/-- functions, as cells -/
def flI (fs : List Sx.F) (xs : List Value) : It := .hp
  { on := fun w P => flOn w P fs xs
    loc := fun w w' P h e => flOn_mono e (fun _ h => h) fs xs h
    wide := fun w P P' h f => flOn_mono (fun _ _ => rfl) f fs xs h }
/-- a slice of functions -/
def fsI (v : Value) (fs : List Sx.F) : It := .hp
  { on := fun w P => ∃ xs, Sep w [ownI 50 8 v fs.length xs, flI fs xs] P
    loc := fun w w' P ⟨xs, h⟩ e => ⟨xs, h.loc e⟩
    wide := fun w P P' ⟨xs, h⟩ f => ⟨xs, h.wide f⟩ }
theorem fsI_close {w : World} {I : List It} {P : Nat → Prop} {v : Value} {fs : List Sx.F} {n : Nat} {xs : List Value} (hn : n = fs.length) (h : Sep w (ownI 50 8 v n xs :: flI fs xs :: I) P) : Sep w (fsI v fs :: I) P := by
  subst hn
  obtain ⟨A, B, h1, h2, h3, h4, h5⟩ := Sep.parts (I := [ownI 50 8 v fs.length xs, flI fs xs]) (J := I) h
  exact ⟨A, B, h1, h2, h3, ⟨xs, h4⟩, h5⟩
theorem fnOn_of {w : World} {P : Nat → Prop} {p e l b : Int} {nm : List UInt8} {vp vb : Value} {ps : List Sx.Pa} {bs : List Sx.S} {h : Bool} (hs : Sep w [psI vp ps, ssI vb bs] P) : fnOn w P ⟨p, nm, ps, h, ⟨e, l, b⟩, bs⟩ (fnA p nm vp h e l b vb).toList := by
  obtain ⟨A, B, h1, h2, h3, h4, C, D, h5, h6, h7, ⟨xb, hb⟩, _⟩ := hs
  obtain ⟨A1, B1, a1, a2, a3, a4, C1, D1, a5, a6, a7, a8, a9⟩ := hb
  exact ⟨vp, vb, xb, rfl, OwnP.mono h4 (fun _ _ => rfl) h1, OwnP.mono a4 (fun _ _ => rfl) (fun k hk => h2 k (h5 k (a1 k hk))), slOn_mono (fun _ _ => rfl) (fun k hk => h2 k (h5 k (a2 k (a5 k hk)))) bs xb a8⟩
theorem flI_more {w : World} {I : List It} {P : Nat → Prop} {p e l b : Int} {nm : List UInt8} {vp vb : Value} {ps : List Sx.Pa} {bs : List Sx.S} {h : Bool} {fs : List Sx.F} {xs : List Value}
    (hs : Sep w (flI fs xs :: psI vp ps :: ssI vb bs :: I) P) : Sep w (flI (fs ++ [⟨p, nm, ps, h, ⟨e, l, b⟩, bs⟩]) (xs ++ (fnA p nm vp h e l b vb).toList) :: I) P := by
  obtain ⟨A, B, h1, h2, h3, h4, h5⟩ := hs
  obtain ⟨C, D, h6, h7, h8, h9, h10⟩ := Sep.parts (I := [psI vp ps, ssI vb bs]) (J := I) h5
  refine ⟨fun k => A k ∨ C k, D, fun k hk => hk.elim (h1 k) fun hc => h2 k (h6 k hc), fun k hk => h2 k (h7 k hk), fun k hk hd => hk.elim (fun ha => h3 k ha (h7 k hd)) fun hc => h8 k hc hd, ?_, h10⟩
  exact flOn_app _ _ _ _ (flOn_mono (fun _ _ => rfl) (fun _ => Or.inl) fs xs h4) (flOn_one (fnOn_mono (fun _ _ => rfl) (fun _ => Or.inr) (fnOn_of h9)))
theorem St.pushF {X : Nat → Prop} {w0 w : World} {x r y z : It} {m : Nat} {p te tl tb : Int} {nm : List UInt8} {vp vb v' : Value} {ps : List Sx.Pa} {bs : List Sx.S} {fs : List Sx.F} {hh : Bool} {xs : List Value}
    (h : St X w0 w [x, r, psI vp ps, ssI vb bs, ownI 50 8 v' m (xs ++ (fnA p nm vp hh te tl tb vb).toList), flI fs xs, y, z]) :
    St X w0 w [x, ownI 50 8 v' m (xs ++ (fnA p nm vp hh te tl tb vb).toList), flI (fs ++ [⟨p, nm, ps, hh, ⟨te, tl, tb⟩, bs⟩]) (xs ++ (fnA p nm vp hh te tl tb vb).toList), y, z] :=
  (h.sel [0, 3, 3, 1, 1, 1, 1] rfl).to fun P h => h.under fun P h => h.under fun P h => flI_more h
theorem fnB (p : Int) (nm : List UInt8) (h : Bool) (e l b : Int) (q1 q2 : Option Addr) (l1 l2 c1 c2 : Nat) : Tryz.prog.builtSlice 50 1 [(0, .agg (fnA p nm (.slice q1 l1 c1) h e l b (.slice q2 l2 c2)))] = some (fnA p nm (.slice q1 l1 c1) h e l b (.slice q2 l2 c2)) := by kernel_rfl
theorem fnEl : Elem 50 8 := ⟨by decide, ⟨.agg (fnA 0 [] (.slice none 0 0) false 0 0 0 (.slice none 0 0)), by kernel_rfl, rfl⟩⟩
theorem fnOne (p : Int) (nm : List UInt8) (h : Bool) (e l b : Int) (q1 q2 : Option Addr) (l1 l2 c1 c2 : Nat) : (fnA p nm (.slice q1 l1 c1) h e l b (.slice q2 l2 c2)).all (·.oneCell') = true := by simp [Value.oneCell']
theorem pgT : StructT 24 1 := ⟨⟨_, Tryz.underlying24⟩, by kernel_rfl⟩
theorem pgZ : Zero 24 #[.slice none 0 0] := by unfold Zero; kernel_rfl
theorem fitsG {q : Option Addr} {l c : Nat} : Fits 1 #[.slice q l c] := ⟨rfl, by simp [Value.oneCell']⟩
section
variable {L : List Lx.Tok} (hL : Sx.Ends L)
include hL
theorem Sx.Fs_stop {σ : Sx.R} (hi : σ.at' < L.length) (h : σ.err ≠ 0 ∨ (Sx.tk L σ).kind = 0) : Sx.Fs L σ = ([], σ) := by
  have h' := Sx.fuel_M L σ
  unfold Sx.Fs
  rw [Sx.enough_functions hL _ (Sx.fuel L + 1) σ hi (by omega) (by omega), Sx.functions, if_neg]
  rcases h with h | h
  · simp [h]
  · simp [h]
theorem Sx.Fs_go {σ : Sx.R} (hi : σ.at' < L.length) (he : σ.err = 0) (hk : (Sx.tk L σ).kind ≠ 0) : Sx.Fs L σ = ((Sx.function L σ).1 :: (Sx.Fs L (Sx.function L σ).2).1, (Sx.Fs L (Sx.function L σ).2).2) := by
  have h' := Sx.fuel_M L σ
  unfold Sx.Fs
  rw [Sx.enough_functions hL _ (Sx.fuel L + 1) σ hi (by omega) (by omega), Sx.functions, if_pos (by simp [he, hk])]
theorem Sx.function_at {σ : Sx.R} (hi : σ.at' < L.length) (he : σ.err = 0) (h : (Sx.function L σ).2.err = 0) : σ.at' + 1 ≤ (Sx.function L σ).2.at' := by
  have h1 := Sx.M_function hL he hi
  have h3 : (Sx.function L σ).2.at' < L.length := (Sx.le_function hL σ).2.2.1 hi
  unfold Sx.M at h1
  rw [if_neg (by simpa using h), if_neg (by simpa using he)] at h1
  omega
end
/-- how many functions a program has -/
def fLen (b : Nat) (w : World) : Nat := lenOf ((w.cell? ⟨b, 0, none⟩).getD undef)
theorem St.fLen {X : Nat → Prop} {w0 w : World} {I : List It} (h : St X w0 w I) (i : Nat) {b : Nat} {t : TypeId} {q : Option Addr} {l c : Nat} (hI : I[i]? = some (.row b t #[.slice q l c])) : fLen b w = l := by
  unfold Go.Proofs.YtjfdcnggnldgdaaGreatDoor.fLen
  rw [h.cell i hI 0]
  rfl
def PGP (b : Nat) (L : List Lx.Tok) (r : List Sx.F × Sx.R) (e : Ending) (J : List It) : Prop :=
  ∃ (q : Option Addr) (l c : Nat) (fs : List Sx.F), e = .returned (.agg #[.slice q l c]) ∧ J = [rd b L r.2, fsI (.slice q l c) fs] ∧ (r.2.err = 0 → r.1 = fs)
set_option maxHeartbeats 8000000 in
set_option maxRecDepth 100000 in
theorem program_fn (b : Nat) (L : List Lx.Tok) (hL : Sx.Ok L) (σ : Sx.R) (ho : σ.opn = 0) : Fn 31 #[.pointer (some ⟨b, 0, none⟩)] [rd b L σ] (PGP b L (Sx.Fs L σ)) := by
  intro w P hP h0
  have HS := Lib.hid (St.start hP h0)
  have HL := Lib.hid hL
  have HO := Lib.hid ho
  clear h0 hP hL ho
  go_enter Tryz.func31, Tryz.ntmps31
  go_wp2_with (first
    | (first | (refine wpl_alloc HS.out _ rfl pgZ ?_; intro b2 w1 HS1; clear HS) | (refine wpl_alloc HS1.out _ rfl pgZ ?_; intro b3 w2 HSA; clear HS1)))
  obtain ⟨N, hN⟩ : ∃ N : Nat, N = 65537 := ⟨_, rfl⟩
  have HNN := Lib.hid hN
  clear hN
  simp only [Act.put, List.setIfInBounds_toArray, List.set_cons_zero, List.set_cons_succ]
  go_loopw [] (fun wr => ∃ (k : Nat) (q : Option Addr) (c : Nat) (fs : List Sx.F) (xs : List Value) (τ : Sx.R), k ≤ N ∧ Hid (fs.length = k ∧ St P w wr [rd b L τ, ownI 50 8 (.slice q k c) k xs, flI fs xs, .row b3 24 #[.slice q k c], .row b2 24 #[.slice none 0 0]] ∧ τ.opn = 0 ∧ (τ.err = 0 → k ≤ τ.at') ∧ (Sx.Fs L σ).2 = (Sx.Fs L τ).2 ∧ ((Sx.Fs L τ).2.err = 0 → (Sx.Fs L σ).1 = fs ++ (Sx.Fs L τ).1))) (fun wr => N + 1 - fLen b3 wr)
  case atStart =>
    refine ⟨0, none, 0, [], [], σ, Nat.zero_le _, Lib.hid ⟨rfl, HSA.out.to fun P h => h.under fun P h => ?_, HO.out, fun _ => Nat.zero_le _, rfl, fun _ => rfl⟩⟩
    exact Sep.emp (Sep.emp h (show (flI [] []).on _ (fun _ => False) from rfl)) ⟨World.ownsRow_nil _ _ _ _, fun g hg => by cases hg⟩
  case round =>
    obtain ⟨k, q, c, fs, xs, τ, hk, HK⟩ := hrel
    have HST := Lib.hid HK.out.2.1
    have hat := HST.out.at'
    have C2 := Lib.hid (next_fn b L τ)
    have hF0 := tokF0
    have HAT := Lib.hid hat
    by_cases hkd : (Sx.pk L τ).kind = 0
    · have hex : τ.err ≠ 0 ∨ (Sx.tk L τ).kind = 0 := by
        by_cases he : τ.err = 0
        · exact Or.inr (by rw [← Sx.pk_tk he]; exact hkd)
        · exact Or.inl he
      have HF := Lib.hid (Sx.Fs_stop HL.out.ends hat hex)
      clear hex hat hk HO
      go_wp2_with (first
        | (go_at_call 61; refine (HST.out.call1 C2.out).mono ?_; rintro e w12 ⟨J, ⟨rfl, rfl⟩, hs⟩; simp only [List.cons_append, List.nil_append] at hs; have HS2 := Lib.hid hs; clear hs)
        | (refine wpl_loadS HS2.out 3 rfl rfl pgT rfl ?_)
        | (refine wpl_storeS HS2.out 4 rfl rfl pgT rfl fitsG ?_; intro w13 hs; have HS13 := Lib.hid (show St _ _ _ (_ :: _ :: _ :: _ :: _ :: []) from hs.out); clear hs HS2))
      refine bp_cell HS13.out 4 pgT rfl rfl rfl rfl rfl ⟨_, ⟨q, k, c, fs, rfl, rfl, fun h => ?_⟩, ?_⟩
      · rw [HK.out.2.2.2.2.2 (by rw [← HK.out.2.2.2.2.1]; exact h), HF.out, List.append_nil]
      · rw [HK.out.2.2.2.2.1, HF.out]
        exact (St.sel HS13.out [0, 0, 0] rfl).to fun P h => h.under fun P h => fsI_close HK.out.1.symm h
    · have he : τ.err = 0 := by
        apply Classical.byContradiction
        intro he
        exact hkd (Sx.end_tok HL.out.ends HL.out.clean hat he).1
      have hkt : (Sx.tk L τ).kind ≠ 0 := by rw [← Sx.pk_tk he]; exact hkd
      have hkb : k < 65537 := by
        have h1 := HK.out.2.2.2.1 he
        have h2 := HL.out.len
        omega
      have hnm : k < nMax := by unfold nMax; omega
      have CX := Lib.hid (function_fn b L HL.out τ HK.out.2.2.1)
      have HN := Lib.hid (Sx.Fs_go HL.out.ends hat he hkt)
      have HHe := Lib.hid he
      have HKB := Lib.hid hkb
      clear he hkt hat hk hkb HO
      go_wp2_with (first
        | (go_at_call 61; refine (HST.out.call1 C2.out).mono ?_; rintro e w12 ⟨J, ⟨rfl, rfl⟩, hs⟩; simp only [List.cons_append, List.nil_append] at hs; have HS2 := Lib.hid hs; clear hs))
      refine wp_region_held_drew (S := fun _ => True) (by kernel_rfl) (trivial) (fun hHeld => ?_)
      refine tkH 0 ?_
      refine tkH 2 ?_
      refine wpAnyH_ready (rs := [1, 3]) (by kernel_rfl) (by simp) ?_
      refine AllReadyH.cons rfl (fun K hK => ?_) (AllReadyH.cons rfl (fun K hK => ?_) AllReadyH.nil)
      · (refine wp_load1 HS2.out.drew 3 rfl rfl funcsO rfl ?_)
        refine hK.out _ _ (trivial) (fun hHeld => ?_)
        clear hK K
        (try simp only [Act.put, List.setIfInBounds_toArray, List.set_cons_zero, List.set_cons_succ, List.getElem_toArray, List.getElem_cons_succ, List.getElem_cons_zero])
        refine wpAnyH_ready (rs := [3]) (by kernel_rfl) (by simp) ?_
        refine AllReadyH.cons rfl (fun K hK => ?_) AllReadyH.nil
        go_simp
        (go_at_call 62; refine (HS2.out.drew.call1 CX.out).mono ?_; rintro e w30 ⟨J, ⟨p, nm, hh, te, tl, tb, q1, q2, l1, l2, c1, c2, ps, bs, rfl, rfl, hx⟩, hs⟩; simp only [List.cons_append, List.nil_append] at hs; have HX := Lib.hid hx; have HS30 := Lib.hid hs; clear hs hx)
        refine hK.out _ _ (trivial) (fun hHeld => ?_)
        clear hK K
        (try simp only [Act.put, List.setIfInBounds_toArray, List.set_cons_zero, List.set_cons_succ, List.getElem_toArray, List.getElem_cons_succ, List.getElem_cons_zero])
        refine wpAnyH_ready (rs := [4]) (by kernel_rfl) (by simp) ?_
        refine AllReadyH.cons rfl (fun K hK => ?_) AllReadyH.nil
        (refine wp_slice HS30.out rfl Tryz.underlying22 (fnB _ _ _ _ _ _ _ _ _ _ _ _) ?_; intro b31 w31 hs; have HS31 := Lib.hid (show St _ _ _ (_ :: _ :: _ :: _ :: _ :: _ :: _ :: _ :: []) from hs.out); clear hs)
        refine hK.out _ _ (trivial) (fun hHeld => ?_)
        clear hK K
        (try simp only [Act.put, List.setIfInBounds_toArray, List.set_cons_zero, List.set_cons_succ, List.getElem_toArray, List.getElem_cons_succ, List.getElem_cons_zero])
        refine wpAnyH_ready (rs := [5]) (by kernel_rfl) (by simp) ?_
        refine AllReadyH.cons rfl (fun K hK => ?_) AllReadyH.nil
        (refine wp_append HS31.out 4 1 rfl rfl rfl Tryz.underlying22 fnEl rfl (fnOne _ _ _ _ _ _ _ _ _ _ _ _) hnm ?_; intro v32 w32 hs h32; obtain ⟨q32, cap32, rfl⟩ := hs.out.ownLen 4 rfl; have HS32 := Lib.hid (show St _ _ _ (_ :: _ :: _ :: _ :: _ :: _ :: _ :: _ :: []) from hs.out); clear hs)
        refine hK.out _ _ (trivial) (fun hHeld => ?_)
        clear hK K
        (try simp only [Act.put, List.setIfInBounds_toArray, List.set_cons_zero, List.set_cons_succ, List.getElem_toArray, List.getElem_cons_succ, List.getElem_cons_zero])
        refine tkH 6 ?_
        refine wpAnyH_ready (rs := [7]) (by kernel_rfl) (by simp) ?_
        refine AllReadyH.cons rfl (fun K hK => ?_) AllReadyH.nil
        (refine wp_store1 HS32.out 6 rfl rfl funcsO (of_decide_eq_true rfl) rfl ?_; intro w33 hs; have HS33 := Lib.hid (show St _ _ _ (_ :: _ :: _ :: _ :: _ :: _ :: _ :: _ :: []) from hs.out); clear hs)
        refine hK.out _ _ (trivial) (fun hHeld => ?_)
        clear hK K
        (try simp only [Act.put, List.setIfInBounds_toArray, List.set_cons_zero, List.set_cons_succ, List.getElem_toArray, List.getElem_cons_succ, List.getElem_cons_zero])
        refine wpAnyH_done (by kernel_rfl) ?_ _
        try go_wp2
        refine ⟨⟨k + 1, q32, cap32, fs ++ [⟨p, nm, ps, hh, ⟨te, tl, tb⟩, bs⟩], xs ++ (fnA p nm (.slice q1 l1 c1) hh te tl tb (.slice q2 l2 c2)).toList, (Sx.function L τ).2, ?_, Lib.hid ⟨?_, HS33.out.pushF, ?_, ?_, ?_, ?_⟩⟩, ?_⟩
        · have := HKB.out; have := HNN.out; omega
        · rw [List.length_append, HK.out.1]; rfl
        · rw [Sx.op_function]; exact HK.out.2.2.1
        · intro hz
          have h1 := Sx.function_at HL.out.ends HAT.out HHe.out hz
          have h3 := HK.out.2.2.2.1 HHe.out
          omega
        · rw [HK.out.2.2.2.2.1, HN.out]
        · intro hz
          have h9 : (Sx.function L τ).2.err = 0 := Sx.Le.ok (Sx.le_functions HL.out.ends _ _) hz
          rw [HK.out.2.2.2.2.2 (by rw [HN.out]; exact hz), HN.out, List.append_assoc, ← HX.out h9]; rfl
        · rw [HS33.out.fLen 6 rfl, HST.out.fLen 3 rfl]
          have := HKB.out
          have := HNN.out
          omega
      · go_simp
        (go_at_call 62; refine (HS2.out.drew.call1 CX.out).mono ?_; rintro e w30 ⟨J, ⟨p, nm, hh, te, tl, tb, q1, q2, l1, l2, c1, c2, ps, bs, rfl, rfl, hx⟩, hs⟩; simp only [List.cons_append, List.nil_append] at hs; have HX := Lib.hid hx; have HS30 := Lib.hid hs; clear hs hx)
        refine hK.out _ _ (trivial) (fun hHeld => ?_)
        clear hK K
        (try simp only [Act.put, List.setIfInBounds_toArray, List.set_cons_zero, List.set_cons_succ, List.getElem_toArray, List.getElem_cons_succ, List.getElem_cons_zero])
        refine wpAnyH_ready (rs := [1, 4]) (by kernel_rfl) (by simp) ?_
        refine AllReadyH.cons rfl (fun K hK => ?_) (AllReadyH.cons rfl (fun K hK => ?_) AllReadyH.nil)
        · (refine wp_load1 HS30.out 5 rfl rfl funcsO rfl ?_)
          refine hK.out _ _ (trivial) (fun hHeld => ?_)
          clear hK K
          (try simp only [Act.put, List.setIfInBounds_toArray, List.set_cons_zero, List.set_cons_succ, List.getElem_toArray, List.getElem_cons_succ, List.getElem_cons_zero])
          refine wpAnyH_ready (rs := [4]) (by kernel_rfl) (by simp) ?_
          refine AllReadyH.cons rfl (fun K hK => ?_) AllReadyH.nil
          (refine wp_slice HS30.out rfl Tryz.underlying22 (fnB _ _ _ _ _ _ _ _ _ _ _ _) ?_; intro b31 w31 hs; have HS31 := Lib.hid (show St _ _ _ (_ :: _ :: _ :: _ :: _ :: _ :: _ :: _ :: []) from hs.out); clear hs)
          refine hK.out _ _ (trivial) (fun hHeld => ?_)
          clear hK K
          (try simp only [Act.put, List.setIfInBounds_toArray, List.set_cons_zero, List.set_cons_succ, List.getElem_toArray, List.getElem_cons_succ, List.getElem_cons_zero])
          refine wpAnyH_ready (rs := [5]) (by kernel_rfl) (by simp) ?_
          refine AllReadyH.cons rfl (fun K hK => ?_) AllReadyH.nil
          (refine wp_append HS31.out 4 1 rfl rfl rfl Tryz.underlying22 fnEl rfl (fnOne _ _ _ _ _ _ _ _ _ _ _ _) hnm ?_; intro v32 w32 hs h32; obtain ⟨q32, cap32, rfl⟩ := hs.out.ownLen 4 rfl; have HS32 := Lib.hid (show St _ _ _ (_ :: _ :: _ :: _ :: _ :: _ :: _ :: _ :: []) from hs.out); clear hs)
          refine hK.out _ _ (trivial) (fun hHeld => ?_)
          clear hK K
          (try simp only [Act.put, List.setIfInBounds_toArray, List.set_cons_zero, List.set_cons_succ, List.getElem_toArray, List.getElem_cons_succ, List.getElem_cons_zero])
          refine tkH 6 ?_
          refine wpAnyH_ready (rs := [7]) (by kernel_rfl) (by simp) ?_
          refine AllReadyH.cons rfl (fun K hK => ?_) AllReadyH.nil
          (refine wp_store1 HS32.out 6 rfl rfl funcsO (of_decide_eq_true rfl) rfl ?_; intro w33 hs; have HS33 := Lib.hid (show St _ _ _ (_ :: _ :: _ :: _ :: _ :: _ :: _ :: _ :: []) from hs.out); clear hs)
          refine hK.out _ _ (trivial) (fun hHeld => ?_)
          clear hK K
          (try simp only [Act.put, List.setIfInBounds_toArray, List.set_cons_zero, List.set_cons_succ, List.getElem_toArray, List.getElem_cons_succ, List.getElem_cons_zero])
          refine wpAnyH_done (by kernel_rfl) ?_ _
          try go_wp2
          refine ⟨⟨k + 1, q32, cap32, fs ++ [⟨p, nm, ps, hh, ⟨te, tl, tb⟩, bs⟩], xs ++ (fnA p nm (.slice q1 l1 c1) hh te tl tb (.slice q2 l2 c2)).toList, (Sx.function L τ).2, ?_, Lib.hid ⟨?_, HS33.out.pushF, ?_, ?_, ?_, ?_⟩⟩, ?_⟩
          · have := HKB.out; have := HNN.out; omega
          · rw [List.length_append, HK.out.1]; rfl
          · rw [Sx.op_function]; exact HK.out.2.2.1
          · intro hz
            have h1 := Sx.function_at HL.out.ends HAT.out HHe.out hz
            have h3 := HK.out.2.2.2.1 HHe.out
            omega
          · rw [HK.out.2.2.2.2.1, HN.out]
          · intro hz
            have h9 : (Sx.function L τ).2.err = 0 := Sx.Le.ok (Sx.le_functions HL.out.ends _ _) hz
            rw [HK.out.2.2.2.2.2 (by rw [HN.out]; exact hz), HN.out, List.append_assoc, ← HX.out h9]; rfl
          · rw [HS33.out.fLen 6 rfl, HST.out.fLen 3 rfl]
            have := HKB.out
            have := HNN.out
            omega
        · (refine wp_slice HS30.out rfl Tryz.underlying22 (fnB _ _ _ _ _ _ _ _ _ _ _ _) ?_; intro b31 w31 hs; have HS31 := Lib.hid (show St _ _ _ (_ :: _ :: _ :: _ :: _ :: _ :: _ :: _ :: []) from hs.out); clear hs)
          refine hK.out _ _ (trivial) (fun hHeld => ?_)
          clear hK K
          (try simp only [Act.put, List.setIfInBounds_toArray, List.set_cons_zero, List.set_cons_succ, List.getElem_toArray, List.getElem_cons_succ, List.getElem_cons_zero])
          refine wpAnyH_ready (rs := [1]) (by kernel_rfl) (by simp) ?_
          refine AllReadyH.cons rfl (fun K hK => ?_) AllReadyH.nil
          (refine wp_load1 HS31.out 6 rfl rfl funcsO rfl ?_)
          refine hK.out _ _ (trivial) (fun hHeld => ?_)
          clear hK K
          (try simp only [Act.put, List.setIfInBounds_toArray, List.set_cons_zero, List.set_cons_succ, List.getElem_toArray, List.getElem_cons_succ, List.getElem_cons_zero])
          refine wpAnyH_ready (rs := [5]) (by kernel_rfl) (by simp) ?_
          refine AllReadyH.cons rfl (fun K hK => ?_) AllReadyH.nil
          (refine wp_append HS31.out 4 1 rfl rfl rfl Tryz.underlying22 fnEl rfl (fnOne _ _ _ _ _ _ _ _ _ _ _ _) hnm ?_; intro v32 w32 hs h32; obtain ⟨q32, cap32, rfl⟩ := hs.out.ownLen 4 rfl; have HS32 := Lib.hid (show St _ _ _ (_ :: _ :: _ :: _ :: _ :: _ :: _ :: _ :: []) from hs.out); clear hs)
          refine hK.out _ _ (trivial) (fun hHeld => ?_)
          clear hK K
          (try simp only [Act.put, List.setIfInBounds_toArray, List.set_cons_zero, List.set_cons_succ, List.getElem_toArray, List.getElem_cons_succ, List.getElem_cons_zero])
          refine tkH 6 ?_
          refine wpAnyH_ready (rs := [7]) (by kernel_rfl) (by simp) ?_
          refine AllReadyH.cons rfl (fun K hK => ?_) AllReadyH.nil
          (refine wp_store1 HS32.out 6 rfl rfl funcsO (of_decide_eq_true rfl) rfl ?_; intro w33 hs; have HS33 := Lib.hid (show St _ _ _ (_ :: _ :: _ :: _ :: _ :: _ :: _ :: _ :: []) from hs.out); clear hs)
          refine hK.out _ _ (trivial) (fun hHeld => ?_)
          clear hK K
          (try simp only [Act.put, List.setIfInBounds_toArray, List.set_cons_zero, List.set_cons_succ, List.getElem_toArray, List.getElem_cons_succ, List.getElem_cons_zero])
          refine wpAnyH_done (by kernel_rfl) ?_ _
          try go_wp2
          refine ⟨⟨k + 1, q32, cap32, fs ++ [⟨p, nm, ps, hh, ⟨te, tl, tb⟩, bs⟩], xs ++ (fnA p nm (.slice q1 l1 c1) hh te tl tb (.slice q2 l2 c2)).toList, (Sx.function L τ).2, ?_, Lib.hid ⟨?_, HS33.out.pushF, ?_, ?_, ?_, ?_⟩⟩, ?_⟩
          · have := HKB.out; have := HNN.out; omega
          · rw [List.length_append, HK.out.1]; rfl
          · rw [Sx.op_function]; exact HK.out.2.2.1
          · intro hz
            have h1 := Sx.function_at HL.out.ends HAT.out HHe.out hz
            have h3 := HK.out.2.2.2.1 HHe.out
            omega
          · rw [HK.out.2.2.2.2.1, HN.out]
          · intro hz
            have h9 : (Sx.function L τ).2.err = 0 := Sx.Le.ok (Sx.le_functions HL.out.ends _ _) hz
            rw [HK.out.2.2.2.2.2 (by rw [HN.out]; exact hz), HN.out, List.append_assoc, ← HX.out h9]; rfl
          · rw [HS33.out.fLen 6 rfl, HST.out.fLen 3 rfl]
            have := HKB.out
            have := HNN.out
            omega
end Go.Proofs.YtjfdcnggnldgdaaGreatDoor
end
