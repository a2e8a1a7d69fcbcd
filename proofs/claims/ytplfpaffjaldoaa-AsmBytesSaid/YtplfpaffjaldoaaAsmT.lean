/-
  Package asm: what Assemble returns.
-/
import Derived.Test.YtplfpaffjaldoaaAsmQ
import Derived.Test.YtplfpaffjaldoaaAsmN
import Derived.Test.YtplfpaffjaldoaaAsmP
namespace Go.Proofs.Ytplfpaffjaldoaa
open Go.ChangeShapes Go.WideShapes Go.ChangeAt Go.RowKit
set_option linter.unusedVariables false
set_option linter.unusedSimpArgs false

noncomputable def As.wl (L : List As.It) : List Bool := As.wideL L (As.fn L)
noncomputable def As.atL (L : List As.It) (base : Int) : List Int := As.lay L (As.wl L) base
noncomputable def As.code (L : List As.It) (base : Int) : List UInt8 := As.byt L (As.atL L base) (As.wl L) (As.fn L) L.length
noncomputable def As.plcs (L : List As.It) (base : Int) : List As.Pl := As.pls L (As.atL L base) L.length
def As.allLen (L : List As.It) : Int := As.at L (List.replicate L.length true) 0 L.length
/-- the error of items at a base -/
def As.outE (L : List As.It) (base : Int) : Int := if As.check L base = 0 then (if As.findE L = 0 then (if 262144 < As.allLen L then 5 else 0) else As.findE L) else As.check L base
theorem spare_bd {L : List As.It} (g : As.Good L (As.fn L)) (hn : L.length ≤ 100000) (j : Nat) (h : j < (As.ways L (As.fn L)).length) : -100000000 ≤ (As.ways L (As.fn L))[j].spare ∧ (As.ways L (As.fn L))[j].spare ≤ 100000000 := by
  obtain ⟨i, hbi, hbc, _⟩ := As.item_of g h
  obtain ⟨hiL, t, ht, hf, ht1, hw, hne, hbt⟩ := As.way_of g hbi
  rw [hbc, List.getElem?_eq_getElem h] at hw
  rw [Option.some.inj hw]
  unfold As.way
  dsimp only
  have himm : As.imm (As.lay L [] 0) i t = As.at L [] 0 t - As.at L [] 0 i - 4 := As.way_imm hiL ht
  rw [himm]
  have b1 := As.at_bd L [] 0 t
  have b2 := As.at_bd L [] 0 i
  have hr := reach_op (g.op i hiL (As.isB_iff.1 hbi).2)
  split
  · exact tdiv2_bd _ (by omega) (by omega)
  · exact tdiv2_bd _ (by omega) (by omega)
theorem item_bd {L : List As.It} (g : As.Good L (As.fn L)) (j : Nat) (h : j < (As.ways L (As.fn L)).length) : ∃ it : Nat, (As.ways L (As.fn L))[j].item = (it : Int) ∧ it < L.length := by
  obtain ⟨i, hbi, hbc, hit⟩ := As.item_of g h
  exact ⟨i, hit, (As.isB_iff.1 hbi).1⟩
/-- Lay, as a slice -/
theorem lay_slice (pl pw : Option Addr) (cl cw n : Nat) (L : List As.It) (wl : List Bool) (base : Int) (w : World) (hn : Hid (L.length = n)) (hm : Hid (wl.length = n)) (hb : n ≤ 100000) (h0 : 0 ≤ base) (h1 : base ≤ 262144)
    (hL : SliceC itC 10 w (.slice pl n cl) L) (hW : SliceC boolC 1 w (.slice pw n cw) wl) :
    Calls Try.prog 13 #[.slice pl n cl, .int .i64 base, .slice pw n cw] w fun e w' => ∃ a c, e = .returned (.slice (some a) (n + 1) c) ∧ SliceC intC 1 w' (.slice (some a) (n + 1) c) (As.lay L wl base) ∧ Below w.heap.size w w' := by
  refine (alay_any pl pw cl cw n n L wl base w hn hm (by omega) (by omega) (by omega) (Lib.hid hL) (Lib.hid hW)).mono ?_
  rintro e w' ⟨v, rfl, hrow, hbl⟩
  have hl : (As.lay L wl base).length = n + 1 := by rw [lat_len, hn.out]
  have hs : SliceC intC 1 w' v (As.lay L wl base) := sliceC_own (f := intC) (sz := 1) (fun _ => rfl) (base := w.heap.size) (e := 3) (by
    rw [hl]
    unfold As.lay
    rw [hn.out]
    exact hrow)
  have hs' := hs
  obtain ⟨p, c, rfl, hat⟩ := hs'
  obtain ⟨a, rfl, -⟩ := hat 0 (by omega)
  rw [hl] at *
  exact ⟨a, c, rfl, hs, hbl⟩
/-- widen of the ways, whatever their row is -/
theorem widen_row {L : List As.It} (g : As.Good L (As.fn L)) (hL : L.length ≤ 100000) (n : Nat) (hn : L.length = n) (base0 : Nat) (v : Value) (w : World) (h : w.ownsRow base0 82 4 v (As.ways L (As.fn L)).length ((As.ways L (As.fn L)).flatMap wayC)) :
    Calls Try.prog 18 #[v, .int .i64 (n : Int)] w fun e w' => ∃ p, e = .returned (.slice (some p) n n) ∧ SliceC boolC 1 w' (.slice (some p) n n) (As.wl L) ∧ w.grownBy w' v.ownBlock := by
  rcases h.2 with ⟨rfl, h0⟩ | ⟨gb, cap, cur, rfl, hb, hg, hc, hm, hs, ht⟩
  · have hS : As.ways L (As.fn L) = [] := List.eq_nil_of_length_eq_zero h0
    refine (widen_nil none 0 n w (by omega)).mono ?_
    rintro e w' ⟨p, rfl, hsl, hbl⟩
    have hI : As.Inv (As.ways L (As.fn L)) (As.ways L (As.fn L)) [] [] := As.Inv.start (fun j => by rw [hS]; simp) List.nodup_nil
    have hw := As.Inv.wide g hI
    rw [As.wideOf_nil, hn] at hw
    rw [hw] at hsl
    exact ⟨p, rfl, hsl, grown_below hbl⟩
  · refine (widen_any ⟨gb, 0, none⟩ gb cap _ n (As.ways L (As.fn L)) w (Lib.hid rfl) (Nat.le_trans (wys_len L (As.lay L [] 0) (As.fn L) L.length (Nat.le_refl _)) (by omega)) (by omega) (Lib.hid ⟨rfl, cur, hg, ht⟩) (Lib.hid (As.win g)) (Lib.hid (by rw [← hn]; exact item_bd g)) (Lib.hid (spare_bd g hL))).mono ?_
    rintro e w' ⟨p, ws, D, rfl, hI, hsl, hgr⟩
    have hw := As.Inv.wide g hI
    rw [hn] at hw
    rw [hw] at hsl
    exact ⟨p, rfl, hsl, hgr⟩
theorem repeat_n (ax : Addr) (cx n : Nat) (w : World) (hn : n ≤ 100000) (hx : w.cell? ax = some (.bool true)) :
    Calls Try.prog 17 #[.slice (some ax) 1 cx, .int .i64 (n : Int)] w fun e w' => ∃ aw, e = .returned (.slice (some aw) n n) ∧ SliceC boolC 1 w' (.slice (some aw) n n) (List.replicate n true) ∧ Below w.heap.size w w' := by
  by_cases h0 : n = 0
  · subst h0
    refine (repeat_zero ax cx w).mono ?_
    rintro e w' ⟨aw, gw, rfl, hB, hb⟩
    exact ⟨aw, rfl, hB.slice 0, hb⟩
  · refine (repeat_any ax cx n w (by omega) (by omega) hx).mono ?_
    rintro e w' ⟨aw, gw, rfl, hB, hb⟩
    exact ⟨aw, rfl, by have := hB.slice n; rw [List.length_replicate] at this; exact this, hb⟩
theorem slice_cell {W : World} {a : Addr} {m c : Nat} {l : List Int} (h : SliceC intC 1 W (.slice (some a) m c) l) (j : Nat) (hj : j < l.length) : W.cell? (a.add j) = some (.int .i64 l[j]) := by
  obtain ⟨p, c', e, hat⟩ := h
  obtain ⟨a', hp, hOn⟩ := hat j hj
  injection e with e1 e2 e3
  rw [hp] at e1
  obtain rfl := Option.some.inj e1
  have h := hOn 0 _ rfl
  rw [add_zero', Nat.mul_one] at h
  exact h
theorem lay_get (L : List As.It) (wl : List Bool) (base : Int) (k : Nat) (hk : k < (As.lay L wl base).length) : (As.lay L wl base)[k] = As.at L wl base k := by
  have h2 : k < L.length + 1 := by rw [lat_len] at hk; exact hk
  have := lat_get L wl base k h2
  rw [List.getD_eq_getElem?_getD, List.getElem?_eq_getElem hk] at this
  exact this
theorem lay_bd (L : List As.It) (wl : List Bool) (base : Int) (hn : L.length ≤ 100000) (h0 : 0 ≤ base) (h1 : base ≤ 262144) (j : Nat) : -100000000 ≤ (As.lay L wl base).getD j 0 ∧ (As.lay L wl base).getD j 0 ≤ 100000000 := by
  by_cases hj : j < L.length + 1
  · rw [lat_get L wl base j hj]
    have := As.at_bd L wl base j
    omega
  · rw [List.getD_eq_getElem?_getD, List.getElem?_eq_none (by rw [lat_len]; omega)]
    decide
theorem fn_lt {L : List As.It} {n : Nat} (hn : L.length = n) (l : Int) (j : Nat) (h : As.fn L l = some j) : j < n := by
  obtain ⟨ht, _⟩ := fnd_some h
  omega
set_option maxHeartbeats 8000000 in
set_option maxRecDepth 100000 in
theorem asm_bad (pl : Option Addr) (cl n : Nat) (L : List As.It) (base E : Int) (w : World) (hn : Hid (L.length = n)) (hb : n ≤ 100000) (hL : Hid (SliceC itC 10 w (.slice pl n cl) L)) (hE : Hid (As.check L base = E)) (h0 : ¬ E = 0) :
    Calls Try.prog 7 #[.slice pl n cl, .int .i64 base] w fun e w' => e = .returned (.tuple #[.string ⟨#[]⟩, .slice none 0 0, .int .i64 E]) ∧ Below w.heap.size w w' := by
  have C1 : Hid (∀ w : World, SliceC itC 10 w (.slice pl n cl) L → Calls Try.prog 15 #[.slice pl n cl, .int .i64 base] w fun e w' => e = .returned (.int .i64 E) ∧ Below w.heap.size w w') := Lib.hid fun w h => by
    have := acheck_any pl cl n L base w hn (by omega) (Lib.hid h)
    rw [hE.out] at this
    exact this
  go_enter Try.func7, Try.ntmps7
  go_wp2_with (go_at_call 15; refine (C1.out _ hL.out).mono ?_; rintro e w1 ⟨rfl, hb1⟩)
  go_ret3
  exact ⟨rfl, hb1⟩
set_option maxHeartbeats 8000000 in
set_option maxRecDepth 100000 in
theorem asm_lost (pl : Option Addr) (cl n : Nat) (L : List As.It) (base E : Int) (w : World) (hn : Hid (L.length = n)) (hb : n ≤ 100000) (hL : Hid (SliceC itC 10 w (.slice pl n cl) L)) (hW : Hid (As.wf L)) (hc : Hid (As.check L base = 0)) (hE : Hid (As.findE L = E)) (h0 : ¬ E = 0) :
    Calls Try.prog 7 #[.slice pl n cl, .int .i64 base] w fun e w' => e = .returned (.tuple #[.string ⟨#[]⟩, .slice none 0 0, .int .i64 E]) ∧ Below w.heap.size w w' := by
  have C1 : Hid (∀ w : World, SliceC itC 10 w (.slice pl n cl) L → Calls Try.prog 15 #[.slice pl n cl, .int .i64 base] w fun e w' => e = .returned (.int .i64 0) ∧ Below w.heap.size w w') := Lib.hid fun w h => by
    have := acheck_any pl cl n L base w hn (by omega) (Lib.hid h)
    rw [hc.out] at this
    exact this
  have C2 : Hid (∀ w : World, SliceC itC 10 w (.slice pl n cl) L → Calls Try.prog 16 #[.slice pl n cl] w fun e w' => ∃ m, e = .returned (.tuple #[m, .int .i64 E]) ∧ Below w.heap.size w w') := Lib.hid fun w h => by
    refine (afind_any pl cl n L w hn (by omega) (Lib.hid h) hW E hE).mono ?_
    rintro e w' ⟨⟨m, rfl, _⟩, hb⟩
    exact ⟨m, rfl, hb⟩
  go_enter Try.func7, Try.ntmps7
  go_wp2_with (first
    | (go_at_call 15; refine (C1.out _ hL.out).mono ?_; rintro e w1 ⟨rfl, hb1⟩; have HB1 := Lib.hid hb1; clear hb1)
    | (go_at_call 16; refine (C2.out _ (hL.out.kept HB1.out)).mono ?_; rintro e w2 ⟨m, rfl, hb2⟩; have HB2 := Lib.hid (below_on HB1.out hb2 HB1.out.size); clear hb2))
  go_ret3
  exact ⟨rfl, HB2.out⟩
set_option maxHeartbeats 8000000 in
set_option maxRecDepth 100000 in
theorem asm_big (pl : Option Addr) (cl n : Nat) (L : List As.It) (base A : Int) (w : World) (hn : Hid (L.length = n)) (hb : n ≤ 100000) (hL : Hid (SliceC itC 10 w (.slice pl n cl) L)) (hW : Hid (As.wf L)) (hc : Hid (As.check L base = 0)) (hf : Hid (As.findE L = 0)) (hA : Hid (As.allLen L = A)) (h0 : 262144 < A) :
    Calls Try.prog 7 #[.slice pl n cl, .int .i64 base] w fun e w' => e = .returned (.tuple #[.string ⟨#[]⟩, .slice none 0 0, .int .i64 5]) ∧ Below w.heap.size w w' := by
  have i1 : (n : Int) < (n : Int) + 1 := by omega
  have i0 : (0 : Int) ≤ (n : Int) := by omega
  have C1 : Hid (∀ w : World, SliceC itC 10 w (.slice pl n cl) L → Calls Try.prog 15 #[.slice pl n cl, .int .i64 base] w fun e w' => e = .returned (.int .i64 0) ∧ Below w.heap.size w w') := Lib.hid fun w h => by
    have := acheck_any pl cl n L base w hn (by omega) (Lib.hid h)
    rw [hc.out] at this
    exact this
  have C2 : Hid (∀ w : World, SliceC itC 10 w (.slice pl n cl) L → Calls Try.prog 16 #[.slice pl n cl] w fun e w' => ∃ D, e = .returned (.tuple #[.map (some w.heap.size), .int .i64 0]) ∧ w'.ownsMap Try.prog 3 (plainElem Try.prog 3) w.heap.size n D ∧ As.MapOf D (As.fn L) ∧ w.heap.size < w'.heap.size ∧ Below w.heap.size w w') := Lib.hid fun w h => by
    refine (afind_any pl cl n L w hn (by omega) (Lib.hid h) hW 0 hf).mono ?_
    rintro e w' ⟨⟨m, rfl, hm⟩, hb⟩
    obtain ⟨rfl, D, h1, h2⟩ := hm rfl
    refine ⟨D, rfl, h1, by unfold As.fn; rw [hn.out]; exact h2, h1.lt, hb⟩
  have C3 : Hid (∀ (w : World) (ax : Addr) (cx : Nat), w.cell? ax = some (.bool true) → Calls Try.prog 17 #[.slice (some ax) 1 cx, .int .i64 (n : Int)] w fun e w' => ∃ aw, e = .returned (.slice (some aw) n n) ∧ SliceC boolC 1 w' (.slice (some aw) n n) (List.replicate n true) ∧ Below w.heap.size w w') := Lib.hid fun w ax cx h => repeat_n ax cx n w hb h
  have C4 : Hid (∀ (w : World) (aw : Addr), SliceC itC 10 w (.slice pl n cl) L → SliceC boolC 1 w (.slice (some aw) n n) (List.replicate n true) → Calls Try.prog 13 #[.slice pl n cl, .int .i64 0, .slice (some aw) n n] w fun e w' => ∃ a c, e = .returned (.slice (some a) (n + 1) c) ∧ w'.cell? (a.add n) = some (.int .i64 A) ∧ Below w.heap.size w w') := Lib.hid fun w aw h1 h2 => by
    refine (lay_slice pl (some aw) cl n n L (List.replicate n true) 0 w hn (Lib.hid (by simp)) hb (by decide) (by decide) h1 h2).mono ?_
    rintro e w' ⟨a, c, rfl, hs, hbl⟩
    have hl : n < (As.lay L (List.replicate n true) 0).length := by rw [lat_len, hn.out]; omega
    refine ⟨a, c, rfl, ?_, hbl⟩
    rw [slice_cell hs n hl, lay_get, ← hA.out]
    unfold As.allLen
    rw [hn.out]
  go_enter Try.func7, Try.ntmps7
  go_wp2_with (first
    | (go_at_call 15; refine (C1.out _ hL.out).mono ?_; rintro e w1 ⟨rfl, hb1⟩; have HB1 := Lib.hid hb1; clear hb1)
    | (go_at_call 16; refine (C2.out _ (hL.out.kept HB1.out)).mono ?_; rintro e w2 ⟨D, rfl, hm2, hmo, hlt2, hb2⟩; have HB2 := Lib.hid (below_on HB1.out hb2 HB1.out.size); clear hb2 hm2 hmo hlt2)
    | (go_at_call 17; refine (C3.out _ _ _ (by simp [go_sem])).mono ?_; rintro e w3 ⟨aw, rfl, hs3, hb3⟩; have HS3 := Lib.hid hs3; have HB3 := Lib.hid (below_on (HB2.out.alloc HB2.out.size _) hb3 (by have := HB2.out.size; simp; omega)); clear hs3 hb3)
    | (go_at_call 13; refine (C4.out _ _ (hL.out.kept HB3.out) HS3.out).mono ?_; rintro e w4 ⟨a4, c4, rfl, x4, hb4⟩; have HB4 := Lib.hid (below_on HB3.out hb4 HB3.out.size); clear hb4))
  go_ret3
  exact ⟨rfl, HB4.out⟩
set_option maxHeartbeats 16000000 in
set_option maxRecDepth 100000 in
theorem asm_ok (pl : Option Addr) (cl n : Nat) (L : List As.It) (base A : Int) (w : World) (hn : Hid (L.length = n)) (hb : n ≤ 100000) (hL : Hid (SliceC itC 10 w (.slice pl n cl) L)) (hW : Hid (As.wf L)) (hc : Hid (As.check L base = 0)) (hf : Hid (As.findE L = 0)) (hA : Hid (As.allLen L = A)) (h0 : ¬ 262144 < A) (CD : List UInt8) (hCD : Hid (As.code L base = CD)) :
    Calls Try.prog 7 #[.slice pl n cl, .int .i64 base] w fun e w' => ∃ v, e = .returned (.tuple #[.string ⟨CD.toArray⟩, v, .int .i64 0]) ∧ SliceC plC 2 w' v (As.plcs L base) ∧ Below w.heap.size w w' := by
  have i1 : (n : Int) < (n : Int) + 1 := by omega
  have i0 : (0 : Int) ≤ (n : Int) := by omega
  have G := Lib.hid (good_of hc.out hf.out)
  have hbs := (none_of hc.out).1
  have HBS := Lib.hid hbs
  clear hbs
  have C1 : Hid (∀ w : World, SliceC itC 10 w (.slice pl n cl) L → Calls Try.prog 15 #[.slice pl n cl, .int .i64 base] w fun e w' => e = .returned (.int .i64 0) ∧ Below w.heap.size w w') := Lib.hid fun w h => by
    have := acheck_any pl cl n L base w hn (by omega) (Lib.hid h)
    rw [hc.out] at this
    exact this
  have C2 : Hid (∀ w : World, SliceC itC 10 w (.slice pl n cl) L → Calls Try.prog 16 #[.slice pl n cl] w fun e w' => ∃ D, e = .returned (.tuple #[.map (some w.heap.size), .int .i64 0]) ∧ w'.ownsMap Try.prog 3 (plainElem Try.prog 3) w.heap.size n D ∧ As.MapOf D (As.fn L) ∧ w.heap.size < w'.heap.size ∧ Below w.heap.size w w') := Lib.hid fun w h => by
    refine (afind_any pl cl n L w hn (by omega) (Lib.hid h) hW 0 hf).mono ?_
    rintro e w' ⟨⟨m, rfl, hm⟩, hb⟩
    obtain ⟨rfl, D, h1, h2⟩ := hm rfl
    refine ⟨D, rfl, h1, by unfold As.fn; rw [hn.out]; exact h2, h1.lt, hb⟩
  have C3 : Hid (∀ (w : World) (ax : Addr) (cx : Nat), w.cell? ax = some (.bool true) → Calls Try.prog 17 #[.slice (some ax) 1 cx, .int .i64 (n : Int)] w fun e w' => ∃ aw, e = .returned (.slice (some aw) n n) ∧ SliceC boolC 1 w' (.slice (some aw) n n) (List.replicate n true) ∧ Below w.heap.size w w') := Lib.hid fun w ax cx h => repeat_n ax cx n w hb h
  have C4 : Hid (∀ (w : World) (aw : Addr), SliceC itC 10 w (.slice pl n cl) L → SliceC boolC 1 w (.slice (some aw) n n) (List.replicate n true) → Calls Try.prog 13 #[.slice pl n cl, .int .i64 0, .slice (some aw) n n] w fun e w' => ∃ a c, e = .returned (.slice (some a) (n + 1) c) ∧ w'.cell? (a.add n) = some (.int .i64 A) ∧ Below w.heap.size w w') := Lib.hid fun w aw h1 h2 => by
    refine (lay_slice pl (some aw) cl n n L (List.replicate n true) 0 w hn (Lib.hid (by simp)) hb (by decide) (by decide) h1 h2).mono ?_
    rintro e w' ⟨a, c, rfl, hs, hbl⟩
    have hl : n < (As.lay L (List.replicate n true) 0).length := by rw [lat_len, hn.out]; omega
    refine ⟨a, c, rfl, ?_, hbl⟩
    rw [slice_cell hs n hl, lay_get, ← hA.out]
    unfold As.allLen
    rw [hn.out]
  have C5 : Hid (∀ (w : World) (bm nm : Nat) (D : DataW Unit), SliceC itC 10 w (.slice pl n cl) L → w.ownsMap Try.prog 3 (plainElem Try.prog 3) bm nm D → As.MapOf D (As.fn L) → Calls Try.prog 19 #[.slice pl n cl, .map (some bm)] w fun e w' => ∃ v, e = .returned v ∧ w'.ownsRow w.heap.size 82 4 v (As.ways L (As.fn L)).length ((As.ways L (As.fn L)).flatMap wayC) ∧ Below w.heap.size w w') := Lib.hid fun w bm nm D h1 h2 h3 => by
    have := ways_any pl cl n bm nm L D (As.fn L) w hn (by omega) (Lib.hid h1) hW (Lib.hid h2) (Lib.hid h3) (Lib.hid (fn_lt hn.out))
    rw [← hn.out] at this
    rw [← hn.out]
    exact this
  have C6 : Hid (∀ (w : World) (b0 : Nat) (v : Value), w.ownsRow b0 82 4 v (As.ways L (As.fn L)).length ((As.ways L (As.fn L)).flatMap wayC) → Calls Try.prog 18 #[v, .int .i64 (n : Int)] w fun e w' => ∃ p, e = .returned (.slice (some p) n n) ∧ SliceC boolC 1 w' (.slice (some p) n n) (As.wl L) ∧ w.grownBy w' v.ownBlock) := Lib.hid fun w b0 v h => widen_row G.out (by rw [hn.out]; exact hb) n hn.out b0 v w h
  have C7 : Hid (∀ (w : World) (aw : Addr), SliceC itC 10 w (.slice pl n cl) L → SliceC boolC 1 w (.slice (some aw) n n) (As.wl L) → Calls Try.prog 13 #[.slice pl n cl, .int .i64 base, .slice (some aw) n n] w fun e w' => ∃ a c, e = .returned (.slice (some a) (n + 1) c) ∧ SliceC intC 1 w' (.slice (some a) (n + 1) c) (As.atL L base) ∧ Below w.heap.size w w') := Lib.hid fun w aw h1 h2 => lay_slice pl (some aw) cl n n L (As.wl L) base w hn (Lib.hid (by unfold As.wl; rw [As.wideL_len, hn.out])) hb HBS.out.1 HBS.out.2.1 h1 h2
  have C8 : Hid (∀ (w : World) (bm nm : Nat) (D : DataW Unit) (aa ww : Addr) (ca : Nat), SliceC itC 10 w (.slice pl n cl) L → w.ownsMap Try.prog 3 (plainElem Try.prog 3) bm nm D → As.MapOf D (As.fn L) → SliceC intC 1 w (.slice (some aa) (n + 1) ca) (As.atL L base) → SliceC boolC 1 w (.slice (some ww) n n) (As.wl L) → Calls Try.prog 20 #[.slice pl n cl, .map (some bm), .slice (some aa) (n + 1) ca, .slice (some ww) n n] w fun e w' => e = .returned (.string ⟨CD.toArray⟩) ∧ Below w.heap.size w w') := Lib.hid fun w bm nm D aa ww ca h1 h2 h3 h4 h5 => by
    have := awrite_any pl cl n bm nm aa ww ca n L (As.atL L base) (As.wl L) D (As.fn L) w hn (by omega) (Lib.hid h1) hW (Lib.hid h4) (Lib.hid (by unfold As.atL; rw [lat_len, hn.out])) (Lib.hid (lay_bd L _ base (by rw [hn.out]; exact hb) HBS.out.1 HBS.out.2.1)) (Lib.hid h5) (Lib.hid (by unfold As.wl; rw [As.wideL_len, hn.out])) (Lib.hid h2) (Lib.hid h3) (Lib.hid (fn_lt hn.out)) (Lib.hid (ok_of hc.out hf.out (by rw [hn.out]; exact hb)))
    have e1 : As.byt L (As.atL L base) (As.wl L) (As.fn L) n = CD := by rw [← hCD.out]; unfold As.code; rw [hn.out]
    rw [e1] at this
    exact this
  have C9 : Hid (∀ (w : World) (aa : Addr) (ca : Nat), SliceC itC 10 w (.slice pl n cl) L → SliceC intC 1 w (.slice (some aa) (n + 1) ca) (As.atL L base) → Calls Try.prog 21 #[.slice pl n cl, .slice (some aa) (n + 1) ca] w fun e w' => ∃ v, e = .returned v ∧ SliceC plC 2 w' v (As.plcs L base) ∧ Below w.heap.size w w') := Lib.hid fun w aa ca h1 h2 => by
    refine (places_any pl (some aa) cl ca n (n + 1) L (As.atL L base) w hn (Lib.hid (by unfold As.atL; rw [lat_len, hn.out])) (by omega) (by omega) (Lib.hid h1) (Lib.hid h2)).mono ?_
    rintro e w' ⟨v, rfl, hrow, hbl⟩
    refine ⟨v, rfl, ?_, hbl⟩
    unfold As.plcs
    rw [hn.out]
    exact sliceC_own plC_len hrow
  go_enter Try.func7, Try.ntmps7
  go_wp2_with (first
    | (go_at_call 15; refine (C1.out _ hL.out).mono ?_; rintro e w1 ⟨rfl, hb1⟩; have HB1 := Lib.hid hb1; clear hb1)
    | (go_at_call 16; refine (C2.out _ (hL.out.kept HB1.out)).mono ?_; rintro e w2 ⟨D, rfl, hm2, hmo, hlt2, hb2⟩; have HM2 := Lib.hid hm2; have HMO := Lib.hid hmo; have HLT := Lib.hid hlt2; have HB2 := Lib.hid (below_on HB1.out hb2 HB1.out.size); clear hb2 hm2 hmo hlt2)
    | (go_at_call 17; refine (C3.out _ _ _ (by simp [go_sem])).mono ?_; rintro e w3 ⟨aw, rfl, hs3, hb3⟩; have HS3 := Lib.hid hs3; have HBx := Lib.hid (below_on ((Below.refl w2.heap.size w2).alloc (Nat.le_refl _) _) hb3 (by simp)); have HB3 := Lib.hid (below_on HB2.out HBx.out HB2.out.size); clear hs3 hb3)
    | (go_at_call 13; first
        | (refine (C7.out _ _ (hL.out.kept HB6.out) HS6.out).mono ?_; rintro e w7 ⟨a7, c7, rfl, hs7, hb7⟩; have HS7 := Lib.hid hs7; have HW7 := Lib.hid (HS6.out.kept hb7); have HM7 := Lib.hid (HM6.out.kept (row := none) (grown_below hb7) (by simp)); have HB7 := Lib.hid (below_on HB6.out hb7 HB6.out.size); clear hb7 hs7)
        | (refine (C4.out _ _ (hL.out.kept HB3.out) HS3.out).mono ?_; rintro e w4 ⟨a4, c4, rfl, x4, hb4⟩; have HBy := Lib.hid (below_on HBx.out hb4 HBx.out.size); have HM4 := Lib.hid (HM2.out.kept (row := none) (grown_below HBy.out) (by simp)); have HB4 := Lib.hid (below_on HB3.out hb4 HB3.out.size); clear hb4))
    | (go_at_call 19; refine (C5.out _ _ _ _ (hL.out.kept HB4.out) HM4.out HMO.out).mono ?_; rintro e w5 ⟨v5, rfl, hr5, hb5⟩; have HR5 := Lib.hid hr5; have HM5 := Lib.hid (HM4.out.kept (row := none) (grown_below hb5) (by simp)); have HB5 := Lib.hid (below_on HB4.out hb5 HB4.out.size); clear hb5 hr5)
    | (go_at_call 18; refine (C6.out _ _ _ HR5.out).mono ?_; rintro e w6 ⟨p6, rfl, hs6, hg6⟩; have HS6 := Lib.hid hs6; have HG6 := Lib.hid hg6; have HM6 := Lib.hid (HM5.out.kept hg6 (by intro e; have := own_ge HR5.out _ e.symm; have := HLT.out; have := HBy.out.size; omega)); have HB6 := Lib.hid (HB5.out.grown hg6 HB5.out.size (fun k e => by have := own_ge HR5.out k e; have := HB4.out.size; omega)); clear hs6 hg6)
    | (go_at_call 20; refine (C8.out _ _ _ _ _ _ _ (hL.out.kept HB7.out) HM7.out HMO.out HS7.out HW7.out).mono ?_; rintro e w8 ⟨rfl, hb8⟩; have HS8 := Lib.hid (HS7.out.kept hb8); have HB8 := Lib.hid (below_on HB7.out hb8 HB7.out.size); clear hb8)
    | (go_at_call 21; refine (C9.out _ _ _ (hL.out.kept HB8.out) HS8.out).mono ?_; rintro e w9 ⟨v9, rfl, hs9, hb9⟩; have HS9 := Lib.hid hs9; have HB9 := Lib.hid (below_on HB8.out hb9 HB8.out.size); clear hb9 hs9))
  go_ret3
  exact ⟨v9, rfl, HS9.out, HB9.out⟩
end Go.Proofs.Ytplfpaffjaldoaa
