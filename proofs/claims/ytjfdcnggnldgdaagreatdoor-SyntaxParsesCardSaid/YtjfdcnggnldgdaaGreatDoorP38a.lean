/-
What the document's Lex returns, once more: the tokens' row is the call's own.
-/
import Derived.Test.YtjfdcnggnldgdaaGreatDoorP13a
import Derived.Test.YtjfdcnggnldgdaaGreatDoorP37b
namespace Go.Proofs.YtjfdcnggnldgdaaGreatDoor
open Go.ChangeShapes Go.WideShapes Go.ChangeAt Go.RowKit
set_option linter.unusedVariables false
set_option linter.unusedSimpArgs false

set_option maxHeartbeats 8000000 in
set_option maxRecDepth 100000 in
theorem rlex_own (s : ByteArray) (hs : s.size ≤ 281474976710000) (w : World) :
    Calls Tryz.prog 33 #[.string s] w fun e w' => ∃ (v : Value) (x p : Int), e = .returned (.tuple #[v, .agg (bdA x p)]) ∧ LexO w.heap.size w' (Lx.lex s.data.toList) v x p ∧ Below w.heap.size w w' := by
  obtain ⟨i0, hi, hz0, hz1, hz2⟩ := info_parts Tryz.infoTok
  have HB0 := Lib.hid (Blk.new w 31 (bdA 0 0))
  have HZ := Lib.hid (Lib.size_eq s)
  by_cases hbig : 65536 < s.size
  · have hbig' : (65536 : Int) < (s.size : Int) := by omega
    have HL := Lib.hid (Lx.lex_big s.data.toList (by rw [← HZ.out]; exact hbig))
    clear hz0 hz1 hz2 hi
    go_enter Tryz.func33, Tryz.ntmps33
    go_wp2_with (first
      | ((with_reducible refine wpList_store_blk rbadT HB0.out (fitsB 5 0) ?_ ?_); exact rfl))
    try simp only [Exit.inBlock, Exit.then]
    refine bp_tmp_blk rbadT rfl rfl (HB0.out.row (ds := bdA 5 0) rfl) rfl ⟨_, _, _, rfl, ?_, below_setRow ((Below.refl _ _).alloc (Nat.le_refl _) _) (Nat.le_refl _) _⟩
    rw [HL.out]; exact ⟨rfl, rfl, rfl⟩
  · have hbig' : ¬ (65536 : Int) < (s.size : Int) := by omega
    have HL := Lib.hid (Lx.lex_Tk s.data.toList (by rw [← HZ.out]; exact hbig))
    obtain ⟨l, hl⟩ : ∃ l, s.data.toList = l := ⟨_, rfl⟩
    have HLL := Lib.hid hl
    have C2 := Lib.hid fun w => rnext_any s (by omega) 0 (Nat.zero_le _) w
    rw [hl] at C2 HL ⊢
    rw [hl] at HZ
    have HN : Hid (l.length = s.size) := Lib.hid HZ.out.symm
    rw [HN.out] at HL
    have h0le := Lx.nxt_le l 0 (Nat.zero_le _)
    have H0LE := Lib.hid h0le
    rw [show ((0 : Nat) : Int) = 0 from rfl] at C2
    clear hl h0le
    go_enter Tryz.func33, Tryz.ntmps33
    go_wp2_with (first
      | (go_at_call 63; refine (C2.out _).mono ?_; rintro e w2 ⟨rfl, rfl⟩))
    obtain ⟨w2, hw2⟩ : ∃ w2, (w.alloc (Obj.cells #[Value.int IntKind.i64 0, Value.int IntKind.i64 0] 31)) = w2 := ⟨_, rfl⟩
    have HB2 : Hid (Blk w2 w.heap.size 31 2 (bdA 0 0)) := Lib.hid (by rw [← hw2]; exact HB0.out)
    have HC2 : Hid (Below w.heap.size w w2) := Lib.hid (by rw [← hw2]; exact (Below.refl _ _).alloc (Nat.le_refl _) _)
    rw [hw2]
    clear hw2
    go_loopw [4, 5] (fun L6 A wr => ∃ (done : List Lx.Tok) (p : Nat), A = .int .i64 (Lx.nxt l p : Nat) ∧ Hid (p ≤ s.size ∧ done.length ≤ p ∧ Lx.join (.ok done) (Lx.Tk s.size (l.drop p)) = Lx.Tk s.size l) ∧ wr.ownsRow w2.heap.size 77 4 L6 done.length (done.flatMap tkC) ∧ Below w2.heap.size w2 wr) (fun _ A _ => s.size - (intOf A).toNat)
    case atStart => exact ⟨[], 0, rfl, Lib.hid ⟨Nat.zero_le _, by simp, by rw [List.drop_zero]; cases Lx.Tk s.size l <;> rfl⟩, World.ownsRow_nil _ _ _ _, Below.refl _ _⟩
    case round =>
      obtain ⟨done, p, rfl, HM, hrow, hB⟩ := hrel
      have hnl := Lx.nxt_le l p (by rw [HN.out]; exact HM.out.1)
      have HD := Lib.hid (Lx.nxt_drop l p)
      obtain ⟨a, ha⟩ : ∃ a, Lx.nxt l p = a := ⟨_, rfl⟩
      rw [ha] at hnl HD ⊢
      have HA := Lib.hid ha
      have hNs := HN.out
      have HNL := Lib.hid hnl
      have hmlen : Hid ((l.drop p).length = s.size - p) := Lib.hid (by rw [List.length_drop, HN.out])
      clear ha
      by_cases hlt : a < s.size
      · have hltI : (a : Int) < (s.size : Int) := by omega
        have hg := Lx.get s a hlt
        rw [HLL.out] at hg
        have hlf : Lx.left (l.drop p) = (s[a]'hlt) :: l.drop (a + 1) := by rw [← HD.out]; exact hg
        have hnb := Lx.left_head hlf
        have C3 := Lib.hid fun w => rone_any s hs a hlt hnb w
        rw [HLL.out] at C3
        obtain ⟨u, hu⟩ : ∃ u, l.drop a = u := ⟨_, rfl⟩
        have hul : u.length = s.size - a := by rw [← hu, List.length_drop, HN.out]
        have hcu := Lx.one_le 0 u
        have hcu' : Lx.cnt u ≤ u.length := hcu
        rw [hu] at C3 HD
        have HU := Lib.hid hu
        have HUL := Lib.hid hul
        have hu0 : u ≠ [] := fun e => by rw [e] at hul; simp at hul; omega
        have HU0 := Lib.hid hu0
        obtain ⟨x, hx⟩ : ∃ x, (Lx.one 0 u).1 = x := ⟨_, rfl⟩
        rw [hx] at C3
        have HX := Lib.hid hx
        obtain ⟨n, hn⟩ : ∃ n, Lx.cnt u = n := ⟨_, rfl⟩
        rw [hn] at C3 hcu'
        have HNN := Lib.hid hn
        have hXP : x.pos = 0 := by rw [← hx]; exact (Lx.one_text 0 u).1
        have HXP := Lib.hid hXP
        have CN := Lib.hid fun w => rnext_any s (by omega) (a + n) (by omega) w
        rw [HLL.out, show ((a + n : Nat) : Int) = (a : Int) + (n : Int) from by omega] at CN
        have han : a + n ≤ s.size := by omega
        have HAN := Lib.hid han
        have hanI : (a : Int) + (n : Int) ≤ (s.size : Int) := by omega
        have hanJ : (a : Int) + (n : Int) ≤ 65536 := by omega
        obtain ⟨k, ps, nm, t⟩ := x
        simp only at C3
        clear hg hlf hnb hu hul hcu hcu' hu0 hx hn hXP hnl hNs han
        by_cases h0 : n = 0
        · subst h0
          rw [show ((0 : Nat) : Int) = 0 from rfl] at C3
          go_wp2_with (first
            | (go_at_call 64; refine (C3.out _).mono ?_; rintro e w5 ⟨rfl, hb5⟩; have HB5 := Lib.hid (hB.trans (hb5.mono hB.size)); clear hb5)
            | ((with_reducible refine wpList_store_blk rbadT ((HB2.out.kept HB5.out).alloc _) (fitsB 9 (a : Int)) ?_ ?_); exact rfl))
          try simp only [Exit.inBlock, Exit.then]
          refine bp_tmp_blk rbadT rfl rfl (((HB2.out.kept HB5.out).alloc _).row (ds := bdA 9 (a : Int)) rfl) rfl ⟨_, _, _, rfl, ?_, below_setRow (((HC2.out.trans (HB5.out.mono HC2.out.size))).alloc (by have := HC2.out.size; have := HB5.out.size; omega) _) (Nat.le_refl _) _⟩
          have h1 := HM.out.2.2
          rw [Lx.Tk_bad s.size (l.drop p) (by rw [hmlen.out]; omega) (by rw [← HD.out]; exact HU0.out) (by rw [← HD.out]; exact HNN.out), ← HD.out] at h1
          rw [HL.out, ← h1]
          refine ⟨rfl, rfl, ?_⟩
          have h3 := HUL.out
          omega
        · have hnI : ¬ (n : Int) = 0 := by omega
          have hnB : ((n : Int) == 0) = false := by simpa using hnI
          go_wp2_with (first
            | (go_at_call 64; refine (C3.out _).mono ?_; rintro e w5 ⟨rfl, hb5⟩; have HB5 := Lib.hid (hB.trans (hb5.mono hB.size)); have HR5 := Lib.hid (own_below hrow hb5); clear hb5 hrow)
            | (at_builtin; refine wpList_append_own _ rfl _ _ 64 rfl w2.heap.size 77 i0 (.agg #[.int .i64 0, .int .i64 0, .int .i64 0, .string ⟨#[]⟩]) 4 40 Tryz.underlying64 hi hz0 hz1 hz2 rfl (by decide) _ _ _ rfl ((HR5.out.alloc _).alloc _) ⟨w5.heap.size + 1, 0, none⟩ 1 1 (tkC ⟨k, a, nm, t⟩) rfl rfl (by have h := cell4_new (w5.alloc (.cells #[.int .i64 k, .int .i64 (a : Int), .int .i64 nm, .string (Lx.S t)] 77)) ⟨k, a, nm, t⟩ 77; rw [World.size_alloc] at h; exact h) (by simp [tkC, Value.oneCell']) (by have h1 := HM.out.1; have h2 := HM.out.2.1; unfold maxLen; omega) (by have h1 := HM.out.1; have h2 := HM.out.2.1; omega) (by have := HB5.out.size; simp; omega) ?_; intro v' w7 hown' hgrow' hnil'; have HO7 := Lib.hid hown'; have HB7 := Lib.hid (((HB5.out.alloc HB5.out.size _).alloc (by have := HB5.out.size; simp; omega) _).grown hgrow' (by have := HB5.out.size; simp; omega) (own_ge HR5.out)); clear hown' hgrow' hnil')
            | (go_at_call 63; refine (CN.out _).mono ?_; rintro e w8 ⟨rfl, rfl⟩))
          have h1 := HM.out.1
          have h2 := HM.out.2.1
          have h3 := HM.out.2.2
          have h4 := HNL.out
          have h5 := HAN.out
          have h6 := Lx.nxt_le l (a + n) (by rw [HN.out]; exact h5)
          refine ⟨⟨done ++ [⟨k, a, nm, t⟩], a + n, rfl, Lib.hid ⟨h5, by rw [List.length_append, List.length_singleton]; omega, ?_⟩, ?_, HB7.out⟩, ?_⟩
          · rw [Lx.Tk_good s.size (l.drop p) (by rw [hmlen.out]; omega) (by rw [← HD.out]; exact HU0.out) (by rw [← HD.out, HNN.out]; exact h0), ← HD.out, Lx.join_step, HX.out, HNN.out] at h3
            have hon : (⟨k, ps, nm, t⟩ : Lx.Tok).on (s.size - u.length) = ⟨k, a, nm, t⟩ := by
              unfold Lx.Tok.on
              have h7 := HUL.out
              have h8 : ps = 0 := HXP.out
              rw [show ((ps + (s.size - u.length)) : Nat) = a from by omega]
            have hdd : l.drop (a + n) = u.drop n := by rw [← HU.out, List.drop_drop]
            rw [hon] at h3
            rw [hdd]
            exact h3
          · have h7 := HO7.out
            rw [List.length_append, List.flatMap_append]
            simpa using h7
          · simp only [intOf, Int.toNat_natCast]; omega
      · have hgeI : ¬ (a : Int) < (s.size : Int) := by omega
        have hemp : Lx.left (l.drop p) = [] := by
          rw [← HD.out]
          exact List.drop_of_length_le (by rw [HN.out]; omega)
        have Hu := Lib.hid hemp
        have HRW := Lib.hid hrow
        have HBW := Lib.hid hB
        clear hemp hrow hB hnl hNs
        go_wp2_with (first
          | (at_builtin; refine wpList_append_own _ rfl _ _ 64 rfl w2.heap.size 77 i0 (.agg #[.int .i64 0, .int .i64 0, .int .i64 0, .string ⟨#[]⟩]) 4 40 Tryz.underlying64 hi hz0 hz1 hz2 rfl (by decide) _ _ _ rfl (HRW.out.alloc _) ⟨wr.heap.size, 0, none⟩ 1 1 (tkC ⟨0, s.size, 0, []⟩) rfl rfl (cell4_new wr ⟨0, s.size, 0, []⟩ 77) (by simp [tkC, Value.oneCell']) (by have h1 := HM.out.1; have h2 := HM.out.2.1; unfold maxLen; omega) (by have h1 := HM.out.1; have h2 := HM.out.2.1; omega) (by have := HBW.out.size; simp; omega) ?_; intro v' w7 hown' hgrow' hnil'; have HO7 := Lib.hid hown'; have HB7 := Lib.hid ((HBW.out.alloc HBW.out.size _).grown hgrow' (by have := HBW.out.size; simp; omega) (own_ge HRW.out)); clear hown' hgrow' hnil')
          | ((with_reducible refine wpList_store_blk rbadT (HB2.out.kept HB7.out) (fitsB 0 0) ?_ ?_); exact rfl))
        try simp only [Exit.inBlock, Exit.then]
        refine bp_tmp_blk rbadT rfl rfl ((HB2.out.kept HB7.out).row (ds := bdA 0 0) rfl) rfl ⟨_, _, _, rfl, ?_, below_setRow (HC2.out.trans (HB7.out.mono HC2.out.size)) (Nat.le_refl _) _⟩
        have h1 := HM.out.2.2
        rw [Lx.Tk_end s.size (l.drop p) Hu.out] at h1
        rw [HL.out, ← h1]
        have h4 := HO7.out
        have h5 : (done ++ [(⟨0, s.size, 0, []⟩ : Lx.Tok)]).flatMap tkC = done.flatMap tkC ++ tkC ⟨0, s.size, 0, []⟩ := by
          rw [List.flatMap_append]; simp
        have h6 : (done ++ [(⟨0, s.size, 0, []⟩ : Lx.Tok)]).length = done.length + 1 := by simp
        rw [← h5, ← h6] at h4
        have h7 := own_setRow h4 (b := w.heap.size) (by have := (HB2.out).lt; exact this) (bdA 0 0)
        show _ ∧ _ ∧ World.ownsRow _ _ _ _ _ ((done ++ []) ++ [_]).length (((done ++ []) ++ [_]).flatMap tkC)
        rw [List.append_nil]
        exact ⟨rfl, rfl, own_base h7 HC2.out.size⟩
end Go.Proofs.YtjfdcnggnldgdaaGreatDoor
