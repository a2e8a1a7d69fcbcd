/-
  The document's side of layer 7: what its Region returns.
-/
import Derived.Laws.MakeOwn
import Derived.Lib.BufferWrite
import Derived.Test.YtchljdcjlkfbfaaMryJ
namespace Go.Proofs.Ytchljdcjlkfbfaa
open Go.ChangeShapes Go.WideShapes Go.ChangeAt Go.RowKit
set_option linter.unusedVariables false
set_option linter.unusedSimpArgs false

theorem info_byte : ∃ i, Try.prog.info? 5 = some i ∧ i.zero = some (.int .u8 0) ∧ i.size = 1 ∧ i.bytes = 1 := by
  have h : (Try.prog.info? 5).map (fun i => (i.zero, i.size, i.bytes)) = some (some (.int .u8 0), 1, 1) := by kernel_rfl
  cases hq : Try.prog.info? 5 with
  | none => rw [hq] at h; cases h
  | some i => rw [hq] at h; simp at h; exact ⟨i, rfl, h.1, h.2.1, h.2.2⟩
theorem make_room (n : Nat) (hn : n ≤ 1000000) (w : World) :
    (Instr.makeSlice 56 (.int .i64 0) (.int .i64 (n : Int))).run Try.prog w = .ok (.slice (some ⟨w.heap.size, 0, none⟩) 0 n) (w.alloc (.cells (madeCells #[.int .u8 0] n) 5)) := by
  obtain ⟨i, hi, h3, h1, h2⟩ := info_byte
  have h := run_make (P := Try.prog) w 56 5 i (.int .u8 0) Try.underlying56 hi h3 .i64 .i64 0 n (by omega) (by omega) (by rw [h2]; omega) (by omega)
  rw [h, h1, Nat.mul_one, Int.toNat_natCast]
  rfl
theorem cell1_new (w : World) (x : Value) (t : TypeId) : ∀ j u, [x][j]? = some u → (w.alloc (.cells #[x] t)).cell? ((⟨w.heap.size, 0, none⟩ : Addr).add j) = some u := by
  intro j u hj
  match j, hj with
  | 0, hj => simp at hj; subst hj; simp [go_sem, Addr.add]
  | j + 1, hj => simp at hj
theorem own_str {W : World} {base : Nat} {v : Value} {n : Nat} {l : List UInt8} (h : W.ownsRow base 5 1 v n (Lib.byteCells l)) (hn : l.length = n) :
    (convert 56 9 v).run Try.prog W = .ok (.string ⟨l.toArray⟩) W := by
  rcases h.2 with ⟨rfl, h0⟩ | ⟨g, cap, cur, rfl, hb, hg, hc, hm, hs, ht⟩
  · have hl : l = [] := List.eq_nil_of_length_eq_zero (by omega)
    subst hl
    have h2 := run_convert_bytes_nil (P := Try.prog) W 56 5 Try.underlying56 Try.underlying5 0 0 9 Try.underlying9
    rw [h2]
    rfl
  · have h2 := run_convert_bytes_arg (P := Try.prog) W 56 5 Try.underlying56 Try.underlying5 g 0 n cap (l.map fun b => (b.toNat : Int)) (by simp [hn]) (fun j hj => by
      rw [Nat.zero_add]
      simp only [World.cell?, hg]
      have e : cur.toList[j]? = (cur.toList.take (n * 1))[j]? := by rw [List.getElem?_take, if_pos (by omega)]
      rw [← Array.getElem?_toList, e, ht]
      simp only [Lib.byteCells, List.getElem?_map]
      rw [List.getD_eq_getElem?_getD, List.getElem?_map, List.getElem?_eq_getElem (by omega)]
      rfl) 9 Try.underlying9
    rw [h2]
    simp [strOfNums, List.map_map, Function.comp_def]
theorem My.row_snoc (M : Int → UInt8) (b : Int) (j : Nat) : My.row M b (j + 1) = My.row M b j ++ [M (b + (j : Nat))] := by
  unfold My.row; rw [List.range_succ, List.map_append]; rfl
/-- where a region begins and how long it is, in cells -/
abbrev RAt (W : World) (b : Addr) (x l : Int) : Prop := W.cell? b = some (.int .i64 x) ∧ W.cell? ⟨b.block, b.off + 1, none⟩ = some (.int .i64 l)
theorem regs_at {W : World} {s : My.St} (hg : My.good s) {ad : Addr} {c : Nat} (h : SliceC rgC 3 W (.slice (some ad) 7 c) (My.sev s)) (k : Nat) (hk : k < 7) : RAt W (ad.add (k * 3)) (My.bs s k) ((My.ln s k : Nat) : Int) := by
  obtain ⟨p', c', e', hat⟩ := h
  obtain ⟨a2, hpa, hOn⟩ := hat k hk
  injection e' with ep en ec
  rw [hpa] at ep
  injection ep with ep
  subst ep
  refine ⟨?_, ?_⟩
  · have h0 := hOn 0 _ rfl
    rw [add_zero'] at h0
    rw [← My.bs_at s k hk]
    exact h0
  · rw [← My.ln_at hg k hk]
    exact hOn 1 _ rfl
set_option maxHeartbeats 8000000 in
set_option maxRecDepth 100000 in
theorem rregion_any (s : My.St) (p : Option Addr) (n c : Nat) (L : List My.Step) (k : Nat) (w : World) (hn : Hid (L.length = n)) (hm : n ≤ 100) (hL : Hid (SliceC stC 4 w (.slice p n c) L)) (hW : Hid (My.wfL L)) (hg : Hid (My.good s)) (hr : Hid ((Lit.int .i64 s.r).wf = true)) (hk : k < 7) :
    Calls Try.prog 14 #[.agg #[.int .i64 s.i, .int .i64 s.o, .int .i64 s.r, .string s.fl, .string s.inp], .slice p n c, .int .i64 (k : Nat)] w fun e w' => e = .returned (.string ⟨(My.row (My.after s L) (My.bs s k) (My.ln s k)).toArray⟩) ∧ Below w.heap.size w w' := by
  have C : Hid (∀ w : World, Calls Try.prog 22 #[.agg #[.int .i64 s.i, .int .i64 s.o, .int .i64 s.r], .int .i64 (s.fl.size : Nat)] w fun e w' => ∃ a c, e = .returned (.tuple #[.slice (some a) 7 c, .int .i64 0]) ∧ SliceC rgC 3 w' (.slice (some a) 7 c) (My.sev s) ∧ Below w.heap.size w w') := Lib.hid fun w => rregions_ok s.i s.o s.r (s.fl.size : Nat) w (Lib.hid hg.out.1) hr
  have B : Hid (∀ (b : Int) (w' : World), Below w.heap.size w w' → 0 ≤ b → b ≤ 600000000 → Calls Try.prog 23 #[.agg #[.int .i64 s.i, .int .i64 s.o, .int .i64 s.r, .string s.fl, .string s.inp], .slice p n c, .int .i64 b] w' fun e w'' => e = .returned (.int .i64 ((My.after s L b).toNat : Int)) ∧ Below w'.heap.size w' w'') := Lib.hid fun b w' hb h0 h1 => rbyte_any s p n c L b w' hn hm (Lib.hid (hL.out.kept hb)) hW hg hr h0 h1
  have RA : Hid (∀ (W : World) (ad : Addr) (c : Nat), SliceC rgC 3 W (.slice (some ad) 7 c) (My.sev s) → RAt W (ad.add (k * 3)) (My.bs s k) ((My.ln s k : Nat) : Int)) := Lib.hid fun W ad c h => regs_at hg.out h k hk
  have S := Lib.hid (st_new w s.i s.o s.r s.fl s.inp 25)
  have hbd := My.bs_bd hg.out k hk
  have hmk := fun (w : World) => make_room (My.ln s k) (by omega) w
  obtain ⟨i0, hi, hz0, hz1, hz2⟩ := info_byte
  have hk0 : (0 : Int) ≤ (k : Int) := by omega
  have hk7 : (k : Int) < 7 := by omega
  generalize s.i = i at *
  generalize s.o = o at *
  generalize s.r = r at *
  generalize s.fl = fl at *
  generalize s.inp = inp at *
  generalize My.after s L = M at *
  generalize My.bs s k = bb at *
  generalize My.ln s k = ln at *
  go_enter Try.func14, Try.ntmps14
  go_wp2_with (go_at_call 22; refine (C.out _).mono ?_; rintro e w1 ⟨a1, c1, rfl, hs1, hb1⟩; have HS1 := Lib.hid hs1; have HT := Lib.hid (S.out.kept hb1); obtain ⟨y0, y1⟩ := RA.out _ _ _ hs1; have HB := Lib.hid (((Below.refl _ _).alloc (Nat.le_refl _) _).trans (hb1.mono (by simp))); clear hb1 hs1)
  have HM : Hid ((w1.alloc (.cells (madeCells #[.int .u8 0] ln) 5)).ownsRow w1.heap.size 5 1 (.slice (some ⟨w1.heap.size, 0, none⟩) 0 ln) 0 []) := Lib.hid (World.ownsRow_made w1 _ ln (Nat.le_refl _) (by unfold maxLen; omega) (by rw [size_madeCells, Nat.mul_one]))
  have HB1 : Hid (Below w1.heap.size w1 (w1.alloc (.cells (madeCells #[.int .u8 0] ln) 5))) := Lib.hid ((Below.refl _ _).alloc (Nat.le_refl _) _)
  have HTF : Hid (∀ w' : World, Below w1.heap.size w1 w' → StAt w' w.heap.size i o r fl inp ∧ RAt w' (a1.add (k * 3)) bb (ln : Int)) := Lib.hid fun w' hb => ⟨HT.out.kept hb, RA.out _ _ _ (HS1.out.kept hb)⟩
  clear y0 y1 hmk
  generalize w1.alloc (.cells (madeCells #[.int .u8 0] ln) 5) = W2 at *
  go_loopw [9, 10] (fun O K W => ∃ j : Nat, K = .int .i64 (j : Int) ∧ j ≤ ln ∧ W.ownsRow w1.heap.size 5 1 O j (Lib.byteCells (My.row M bb j)) ∧ Below w1.heap.size w1 W) (fun _ K _ => ln - (intOf K).toNat)
  case atStart => exact ⟨0, rfl, Nat.zero_le _, HM.out, HB1.out⟩
  case round =>
    obtain ⟨j, rfl, hjn, hrow, hB⟩ := hrel
    have HBW : Hid (Below w.heap.size w wr) := Lib.hid (HB.out.trans (hB.mono HB.out.size))
    obtain ⟨⟨x0, x1, x2, x3, x4⟩, y0, y1⟩ := HTF.out wr hB
    have HB0 := Lib.hid hB
    have HR := Lib.hid hrow
    clear hB hrow
    by_cases hlt : j < ln
    · have hlt' : (j : Int) < (ln : Int) := by omega
      have hw0 : wrap64 (bb + (j : Int)) = bb + (j : Int) := by unfold wrap64; omega
      have hw1 : IntKind.i64.wrap (bb + (j : Int)) = bb + (j : Int) := by rw [IntKind.wrap_i64]; omega
      have HC := Lib.hid (fun (w' : World) (hb : Below w.heap.size w w') => B.out (bb + (j : Int)) w' hb (by omega) (by omega))
      have HN : Hid (My.row M bb (j + 1) = My.row M bb j ++ [M (bb + (j : Int))]) := Lib.hid (My.row_snoc M bb j)
      obtain ⟨b, hb⟩ : ∃ b, M (bb + (j : Int)) = b := ⟨_, rfl⟩
      rw [hb] at HC HN
      have hb256 := b.toNat_lt
      have hcv : IntKind.u8.wrap (b.toNat : Int) = (b.toNat : Int) := by simp [IntKind.wrap, IntKind.signed, IntKind.bits]; omega
      have HW1 := HB.out.size
      clear hb
      go_wp2
      refine wp_region_held_drew (S := fun wx => StAt wx w.heap.size i o r fl inp ∧ RAt wx (a1.add (k * 3)) bb (ln : Int)) (by kernel_rfl) (⟨⟨x0, x1, x2, x3, x4⟩, y0, y1⟩) (fun hHeld => ?_)
      refine wpAnyH_take (i := 0) (v := ?_) rfl (by kernel_rfl) (by kernel_rfl) (by kernel_rfl) (fun _ _ _ h => h) (Or.inl ⟨by rfl, ?_⟩) (by assumption) ?_
      rotate_left
      · intro w hSw
        (try dsimp only at hSw)
        go_simp
        (try with_reducible rfl)
      (try simp only [Act.put, List.setIfInBounds_toArray, List.set_cons_zero, List.set_cons_succ])
      refine wpAnyH_take (i := 1) (v := ?_) rfl (by kernel_rfl) (by kernel_rfl) (by kernel_rfl) (fun _ _ _ h => h) (Or.inl ⟨by rfl, ?_⟩) (by assumption) ?_
      rotate_left
      · intro w hSw
        (try dsimp only at hSw)
        go_simp
        (try with_reducible rfl)
      (try simp only [Act.put, List.setIfInBounds_toArray, List.set_cons_zero, List.set_cons_succ])
      refine wpAnyH_take (i := 2) (v := ?_) rfl (by kernel_rfl) (by kernel_rfl) (by kernel_rfl) (fun _ _ _ h => h) (Or.inl ⟨by rfl, ?_⟩) (by assumption) ?_
      rotate_left
      · intro w hSw
        (try dsimp only at hSw)
        go_simp
        (try with_reducible rfl)
      (try simp only [Act.put, List.setIfInBounds_toArray, List.set_cons_zero, List.set_cons_succ])
      refine wpAnyH_take (i := 3) (v := ?_) rfl (by kernel_rfl) (by kernel_rfl) (by kernel_rfl) (fun _ _ _ h => h) (Or.inl ⟨by rfl, ?_⟩) (by assumption) ?_
      rotate_left
      · intro w hSw
        (try dsimp only at hSw)
        go_simp
        (try with_reducible rfl)
      (try simp only [Act.put, List.setIfInBounds_toArray, List.set_cons_zero, List.set_cons_succ])
      refine wpAnyH_take (i := 4) (v := ?_) rfl (by kernel_rfl) (by kernel_rfl) (by kernel_rfl) (fun _ _ _ h => h) (Or.inl ⟨by rfl, ?_⟩) (by assumption) ?_
      rotate_left
      · intro w hSw
        (try dsimp only at hSw)
        go_simp
        (try with_reducible rfl)
      (try simp only [Act.put, List.setIfInBounds_toArray, List.set_cons_zero, List.set_cons_succ])
      refine wpAnyH_take (i := 5) (v := ?_) rfl (by kernel_rfl) (by kernel_rfl) (by kernel_rfl) (fun _ _ _ h => h) (Or.inl ⟨by rfl, ?_⟩) (by assumption) ?_
      rotate_left
      · intro w hSw
        (try dsimp only at hSw)
        go_simp
        (try with_reducible rfl)
      (try simp only [Act.put, List.setIfInBounds_toArray, List.set_cons_zero, List.set_cons_succ])
      refine wpAnyH_take (i := 6) (v := ?_) rfl (by kernel_rfl) (by kernel_rfl) (by kernel_rfl) (fun _ _ _ h => h) (Or.inl ⟨by rfl, ?_⟩) (by assumption) ?_
      rotate_left
      · intro w hSw
        (try dsimp only at hSw)
        go_simp
        (try with_reducible rfl)
      (try simp only [Act.put, List.setIfInBounds_toArray, List.set_cons_zero, List.set_cons_succ])
      refine wpAnyH_take (i := 7) (v := ?_) rfl (by kernel_rfl) (by kernel_rfl) (by kernel_rfl) (fun _ _ _ h => h) (Or.inl ⟨by rfl, ?_⟩) (by assumption) ?_
      rotate_left
      · intro w hSw
        (try dsimp only at hSw)
        go_simp
        (try with_reducible rfl)
      (try simp only [Act.put, List.setIfInBounds_toArray, List.set_cons_zero, List.set_cons_succ])
      refine wpAnyH_take (i := 8) (v := ?_) rfl (by kernel_rfl) (by kernel_rfl) (by kernel_rfl) (fun _ _ _ h => h) (Or.inl ⟨by rfl, ?_⟩) (by assumption) ?_
      rotate_left
      · intro w hSw
        (try dsimp only at hSw)
        go_simp
        (try with_reducible rfl)
      (try simp only [Act.put, List.setIfInBounds_toArray, List.set_cons_zero, List.set_cons_succ])
      refine wpAnyH_take (i := 9) (v := ?_) rfl (by kernel_rfl) (by kernel_rfl) (by kernel_rfl) (fun _ _ _ h => h) (Or.inl ⟨by rfl, ?_⟩) (by assumption) ?_
      rotate_left
      · intro w hSw
        (try dsimp only at hSw)
        go_simp
        (try with_reducible rfl)
      (try simp only [Act.put, List.setIfInBounds_toArray, List.set_cons_zero, List.set_cons_succ])
      refine wpAnyH_ready (rs := [10]) (by kernel_rfl) (by simp) ?_
      refine AllReadyH.cons rfl (fun Kc hK => ?_) AllReadyH.nil
      go_simp
      go_at_call 23; refine (HC.out _ HBW.out.drew).mono ?_; rintro e w4 ⟨rfl, hb4⟩; have HB4 := Lib.hid (HB0.out.drew.trans (hb4.mono HB0.out.size)); have HR4 := Lib.hid (HR.out.kept (row := none) (grown_below ((Below.refl _ _).drew.trans hb4)) (Classical.em _))
      refine hK.out _ _ (HTF.out w4 HB4.out) (fun hHeld4 => ?_)
      clear hK Kc
      (try simp only [Act.put, List.setIfInBounds_toArray, List.set_cons_zero, List.set_cons_succ])
      refine wpAnyH_take (i := 11) (v := ?_) rfl (by kernel_rfl) (by kernel_rfl) (by kernel_rfl) (fun _ _ _ h => h) (Or.inl ⟨by rfl, ?_⟩) (by assumption) ?_
      rotate_left
      · intro w hSw
        (try dsimp only at hSw)
        go_simp
        (try with_reducible rfl)
      (try simp only [Act.put, List.setIfInBounds_toArray, List.set_cons_zero, List.set_cons_succ])
      refine wpAnyH_ready (rs := [12]) (by kernel_rfl) (by simp) ?_
      refine AllReadyH.cons rfl (fun Kc hK => ?_) AllReadyH.nil
      go_simp
      refine hK.out _ _ (HTF.out _ (HB4.out.alloc HB4.out.size _)) (fun hHeld8 => ?_)
      clear hK Kc
      (try simp only [Act.put, List.setIfInBounds_toArray, List.set_cons_zero, List.set_cons_succ])
      refine wpAnyH_ready (rs := [13]) (by kernel_rfl) (by simp) ?_
      refine AllReadyH.cons rfl (fun Kc hK => ?_) AllReadyH.nil
      rw [if_pos (by rfl)]
      refine wp_append_own _ _ _ 56 rfl w1.heap.size 5 i0 (.int .u8 0) 1 1 Try.underlying56 hi hz0 hz1 hz2 rfl (by decide) _ _ _ rfl (HR4.out.alloc _) ⟨w4.heap.size, 0, none⟩ 1 1 [.int .u8 (b.toNat : Int)] rfl rfl (cell1_new w4 _ _) (by simp [Value.oneCell']) (by unfold maxLen; omega) (by omega) (by have := HB4.out.size; simp; omega) ?_
      intro v' w5 hown' hgrow5 hnil5
      have hB5 : Below w1.heap.size w1 w5 := (HB4.out.alloc HB4.out.size _).grown hgrow5 (by have := HB4.out.size; simp; omega) (own_ge HR4.out)
      have HOWN := Lib.hid hown'
      refine hK.out _ _ (HTF.out w5 hB5) (fun hHeld5 => ?_)
      clear hK Kc hHeld hHeld4 hHeld8 hown' hgrow5 hnil5
      (try simp only [Act.put, List.setIfInBounds_toArray, List.set_cons_zero, List.set_cons_succ])
      refine wpAnyH_take (i := 14) (v := ?_) rfl (by kernel_rfl) (by kernel_rfl) (by kernel_rfl) (fun _ _ _ h => h) (Or.inl ⟨by rfl, ?_⟩) (by assumption) ?_
      rotate_left
      · intro w hSw
        (try dsimp only at hSw)
        go_simp
        (try with_reducible rfl)
      (try simp only [Act.put, List.setIfInBounds_toArray, List.set_cons_zero, List.set_cons_succ])
      refine wpAnyH_done (by kernel_rfl) ?_ _
      clear hHeld5
      go_wp2
      exact ⟨⟨j + 1, by simp, by omega, by rw [HN.out, Lib.byteCells_append]; exact HOWN.out, hB5⟩, by simp [intOf]; omega⟩
    · obtain rfl : j = ln := by omega
      have hge : ¬ (j : Int) < (j : Int) := by omega
      have hs := own_str HR.out (My.row_len _ _ _)
      go_wp2
      go_ret
      exact ⟨rfl, HBW.out⟩
end Go.Proofs.Ytchljdcjlkfbfaa
