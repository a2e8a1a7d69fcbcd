/-
  Package asm: what ways returns.
-/
import Derived.Test.YtplfpaffjaldoaaAsmF
namespace Go.Proofs.Ytplfpaffjaldoaa
open Go.ChangeShapes Go.WideShapes Go.ChangeAt Go.RowKit
set_option linter.unusedVariables false
set_option linter.unusedSimpArgs false

/-- the way of a branch to the item that its label is, while all are narrow -/
def As.imm (at' : List Int) (k to_ : Nat) : Int := at'.getD to_ 0 - at'.getD k 0 - 4
def As.way (at' : List Int) (op : Int) (k to_ : Nat) : As.Way :=
  ⟨k, if to_ < k then to_ else k, if k < to_ then to_ else k, if to_ < k then (As.imm at' k to_ - Th.reachLo op false).tdiv 2 else (Th.reachHi op false - As.imm at' k to_).tdiv 2⟩
def As.wys (L : List As.It) (at' : List Int) (f : Int → Option Nat) (k : Nat) : List As.Way := (List.range k).flatMap fun j => match L[j]? with | some x => if x.kind == 2 then [As.way at' x.ins.op j ((f x.label).getD 0)] else [] | none => []
theorem wys_succ (L : List As.It) (at' : List Int) (f : Int → Option Nat) (k : Nat) (hk : k < L.length) : As.wys L at' f (k + 1) = As.wys L at' f k ++ (if L[k].kind == 2 then [As.way at' L[k].ins.op k ((f L[k].label).getD 0)] else []) := by
  unfold As.wys
  rw [List.range_succ, List.flatMap_append]
  congr 1
  simp [List.getElem?_eq_getElem hk]
theorem wys_len (L : List As.It) (at' : List Int) (f : Int → Option Nat) (k : Nat) (hk : k ≤ L.length) : (As.wys L at' f k).length ≤ k := by
  induction k with
  | zero => simp [As.wys]
  | succ k ih =>
    rw [wys_succ L at' f k (by omega), List.length_append]
    have := ih (by omega)
    split <;> simp <;> omega
theorem Try.infoWay : (Try.prog.info? 82).map (fun i => (i.zero, i.size, i.bytes)) = some (some (.agg #[.int .i64 0, .int .i64 0, .int .i64 0, .int .i64 0]), 4, 32) := by kernel_rfl
theorem reach_lit (op lo hi : Int) (w : World) (h1 : Hid (Th.reachLo op false = lo)) (h2 : Hid (Th.reachHi op false = hi)) : Calls Try.prog 14 #[.int .i64 op, .bool false] w fun e w' => e = .returned (.tuple #[.int .i64 lo, .int .i64 hi]) ∧ w = w' := by
  have := reach_any op false w
  rw [h1.out, h2.out] at this
  exact this
theorem reach_bd (op : Int) : -2048 ≤ Th.reachLo op false ∧ Th.reachLo op false ≤ 0 ∧ 0 ≤ Th.reachHi op false ∧ Th.reachHi op false ≤ 2046 := by
  unfold Th.reachLo Th.reachHi
  split
  · simp
  · split <;> simp
theorem ownsRow_base {W : World} {b b' : Nat} {e : TypeId} {size : Nat} {v : Value} {n : Nat} {xs : List Value} (h : W.ownsRow b e size v n xs) (hb : b' ≤ b) : W.ownsRow b' e size v n xs := by
  refine ⟨h.1, ?_⟩
  rcases h.2 with h0 | ⟨g, cap, cur, h1, h2, h3⟩
  · exact .inl h0
  · exact .inr ⟨g, cap, cur, h1, Nat.le_trans hb h2, h3⟩
theorem tdiv2_bd (x : Int) (h0 : -100000000 ≤ x) (h1 : x ≤ 100000000) : -100000000 ≤ x.tdiv 2 ∧ x.tdiv 2 ≤ 100000000 := by
  rcases Int.le_total 0 x with h | h
  · rw [Int.tdiv_eq_ediv_of_nonneg h]; omega
  · obtain ⟨y, rfl⟩ : ∃ y, x = -y := ⟨-x, by omega⟩
    rw [Int.neg_tdiv, Int.tdiv_eq_ediv_of_nonneg (by omega)]; omega
theorem cell4_new (w : World) (x y z u : Value) (t : TypeId) : ∀ j v, [x, y, z, u][j]? = some v → (w.alloc (.cells #[x, y, z, u] t)).cell? ((⟨w.heap.size, 0, none⟩ : Addr).add j) = some v := by
  intro j v hj
  match j, hj with
  | 0, hj => simp at hj; subst hj; simp [go_sem, Addr.add]
  | 1, hj => simp at hj; subst hj; simp [go_sem, Addr.add]
  | 2, hj => simp at hj; subst hj; simp [go_sem, Addr.add]
  | 3, hj => simp at hj; subst hj; simp [go_sem, Addr.add]
  | j + 4, hj => simp at hj
theorem lat_len (L : List As.It) (wl : List Bool) (base : Int) : (As.lay L wl base).length = L.length + 1 := by unfold As.lay; simp
theorem lat_get (L : List As.It) (wl : List Bool) (base : Int) (k : Nat) (hk : k < L.length + 1) : (As.lay L wl base).getD k 0 = As.at L wl base k := by
  unfold As.lay
  rw [List.getD_eq_getElem?_getD, List.getElem?_map, List.getElem?_range hk]
  rfl
set_option maxHeartbeats 8000000 in
set_option maxRecDepth 100000 in
theorem ways_any (pl : Option Addr) (cl n bm nm : Nat) (L : List As.It) (D : DataW Unit) (f : Int → Option Nat) (w : World) (hn : Hid (L.length = n)) (hb : n ≤ 1000000) (hL : Hid (SliceC itC 10 w (.slice pl n cl) L)) (hW : Hid (As.wf L))
    (hown : Hid (w.ownsMap Try.prog 3 (plainElem Try.prog 3) bm nm D)) (hM : Hid (As.MapOf D f)) (hf : Hid (∀ l j, f l = some j → j < n)) :
    Calls Try.prog 19 #[.slice pl n cl, .map (some bm)] w fun e w' => ∃ v, e = .returned v ∧ w'.ownsRow w.heap.size 82 4 v (As.wys L (As.lay L [] 0) f n).length ((As.wys L (As.lay L [] 0) f n).flatMap wayC) ∧ Below w.heap.size w w' := by
  obtain ⟨i0, hi, hz0, hz1, hz2⟩ := info_parts Try.infoWay
  have hW0 : Hid (SliceC boolC 1 w (.slice none 0 0) []) := Lib.hid ⟨none, 0, rfl, fun k hk => absurd hk (Nat.not_lt_zero _)⟩
  have C1 : Hid (∀ (w : World) (hL : SliceC itC 10 w (.slice pl n cl) L) (h0 : SliceC boolC 1 w (.slice none 0 0) []), Calls Try.prog 13 #[.slice pl n cl, .int .i64 0, .slice none 0 0] w fun e w' => ∃ a c, e = .returned (.slice (some a) (n + 1) c) ∧ SliceC intC 1 w' (.slice (some a) (n + 1) c) (As.lay L [] 0) ∧ Below w.heap.size w w') := Lib.hid fun w hL h0 => by
    refine (alay_any pl none cl 0 n 0 L [] 0 w hn (Lib.hid rfl) hb (by decide) (by decide) (Lib.hid hL) (Lib.hid h0)).mono ?_
    rintro e w' ⟨v, rfl, hrow, hbl⟩
    have hl : (As.lay L [] 0).length = n + 1 := by rw [lat_len, hn.out]
    have hs : SliceC intC 1 w' v (As.lay L [] 0) := sliceC_own (f := intC) (sz := 1) (fun _ => rfl) (base := w.heap.size) (e := 3) (by
      rw [hl]
      unfold As.lay
      rw [hn.out]
      exact hrow)
    have hs' := hs
    obtain ⟨p, c, rfl, hat⟩ := hs'
    obtain ⟨a, rfl, -⟩ := hat 0 (by omega)
    rw [hl] at *
    exact ⟨a, c, rfl, hs, hbl⟩
  go_enter Try.func19, Try.ntmps19
  go_wp2_with (go_at_call 13; refine (C1.out _ hL.out hW0.out).mono ?_; rintro e w1 ⟨at_, ca, rfl, hat_, hb1⟩; have HAT := Lib.hid hat_; have HB1 := Lib.hid hb1; have hz1' := hb1.size; clear hat_ hb1)
  go_loopw [5, 18] (fun P K wr => ∃ k : Nat, K = .int .i64 (k : Int) ∧ k ≤ n ∧ wr.ownsRow w1.heap.size 82 4 P (As.wys L (As.lay L [] 0) f k).length ((As.wys L (As.lay L [] 0) f k).flatMap wayC) ∧ Below w1.heap.size w1 wr) (fun _ K _ => n - (intOf K).toNat)
  case atStart => exact ⟨0, rfl, Nat.zero_le _, World.ownsRow_nil _ _ _ _, Below.refl _ _⟩
  case round =>
    obtain ⟨k, rfl, hk, hrow, hB⟩ := hrel
    have HBw := Lib.hid (HB1.out.trans (hB.mono HB1.out.size))
    by_cases hlt : k < n
    · have hkL : k < L.length := by rw [hn.out]; exact hlt
      have hlt' : (k : Int) < (n : Int) := by omega
      have hk0 : (0 : Int) ≤ (k : Int) := by omega
      have hps := wys_succ L (As.lay L [] 0) f k hkL
      have hpl := wys_len L (As.lay L [] 0) f k (by omega)
      obtain ⟨p', c', e', hat⟩ := hL.out.kept HBw.out
      obtain ⟨a, hpa, hOn⟩ := hat k hkL
      injection e' with ep en ec
      rw [hpa] at ep
      subst ep
      have hwf := hW.out k hkL
      rcases hx : L[k] with ⟨kind, label, ⟨op, rd, rn, rm, ra, imm, cond, wide⟩⟩
      rw [hx] at hOn hps hwf
      dsimp only at hps hwf
      obtain ⟨x0, x1, x2, x3, x4, x5, x6, x7, x8, x9⟩ := ItAt.of hOn
      have hkey := Maps.keyOf_int_mk (P := Try.prog) Try.underlying3 hwf
      have HPS := Lib.hid hps
      clear hOn hat hpa ec en hx hps
      by_cases hk1 : kind = 2
      · subst hk1
        obtain ⟨to_, hto⟩ : ∃ t, (f label).getD 0 = t := ⟨_, rfl⟩
        have hton : to_ < n := by
          rw [← hto]
          cases h : f label with
          | none => show 0 < n; omega
          | some j => exact hf.out _ _ h
        have HTO : Hid (∀ cv : Int, D.atKey (.int .i64 label) (.lit (.int .i64 0)) = .lit (.int .i64 cv) → cv = ((to_ : Nat) : Int)) := Lib.hid fun cv h => by
          have h2 := (hM.out.2 label).2
          rw [h, hto] at h2
          injection h2 with h3
          injection h3
        have HOWN := Lib.hid ((hown.out.kept (row := none) (grown_below HBw.out) (by simp)).kept (row := none) (World.grownBy_alloc wr (.cells #[.int .i64 2, .int .i64 label, .int .i64 op, .int .i64 rd, .int .i64 rn, .int .i64 rm, .int .i64 ra, .int .i64 imm, .int .i64 cond, .bool wide] 41) none) (by simp))
        rw [hto] at HPS
        go_wp2_with (at_lookup; refine wpList_lookup_own_int _ rfl _ _ 54 rfl 3 3 .i64 (Maps.int_keyed Try.underlying3) Try.underlying54 Try.underlying3 (Try.zeroValue3 _) bm nm D rfl HOWN.out _ _ rfl hkey ?_; intro cv hcv hwc; obtain rfl : cv = ((to_ : Nat) : Int) := HTO.out cv hcv)
        have hBa := hB.alloc hB.size (.cells #[.int .i64 2, .int .i64 label, .int .i64 op, .int .i64 rd, .int .i64 rn, .int .i64 rm, .int .i64 ra, .int .i64 imm, .int .i64 cond, .bool wide] 41)
        have hcells : ∀ j (hj : j < n + 1), (wr.alloc (.cells #[.int .i64 2, .int .i64 label, .int .i64 op, .int .i64 rd, .int .i64 rn, .int .i64 rm, .int .i64 ra, .int .i64 imm, .int .i64 cond, .bool wide] 41)).cell? (at_.add j) = some (.int .i64 (As.at L [] 0 j)) := fun j hj => by
          obtain ⟨p3, c3, e3, hat3⟩ := HAT.out
          have hl3 : (As.lay L [] 0).length = n + 1 := by rw [lat_len, hn.out]
          obtain ⟨a3, hp3, hOn3⟩ := hat3 j (by omega)
          injection e3 with ep3 en3 ec3
          rw [hp3] at ep3
          obtain rfl := Option.some.inj ep3
          have h := hOn3 0 _ rfl
          rw [add_zero', Nat.mul_one] at h
          have hv : (As.lay L [] 0)[j]'(by omega) = As.at L [] 0 j := by
            have := lat_get L [] 0 j (by rw [hn.out]; exact hj)
            rw [List.getD_eq_getElem?_getD, List.getElem?_eq_getElem (by omega)] at this
            exact this
          rw [hv] at h
          rw [hBa.cell (p := at_.add j) (cell_lt h)]
          exact h
        have hcT := hcells to_ (by omega)
        have hcK := hcells k (by omega)
        have bT := As.at_bd L [] 0 to_
        have bK := As.at_bd L [] 0 k
        have himm : As.imm (As.lay L [] 0) k to_ = As.at L [] 0 to_ - As.at L [] 0 k - 4 := by
          unfold As.imm
          rw [lat_get L [] 0 to_ (by rw [hn.out]; omega), lat_get L [] 0 k (by rw [hn.out]; omega)]
        generalize As.at L [] 0 to_ = T at hcT bT himm
        generalize As.at L [] 0 k = A at hcK bK himm
        obtain ⟨lo, hlo⟩ : ∃ lo, Th.reachLo op false = lo := ⟨_, rfl⟩
        obtain ⟨hh, hhi⟩ : ∃ hh, Th.reachHi op false = hh := ⟨_, rfl⟩
        have hrb := reach_bd op
        have hway : As.way (As.lay L [] 0) op k to_ = ⟨k, if to_ < k then to_ else k, if k < to_ then to_ else k, if to_ < k then (T - A - 4 - lo).tdiv 2 else (hh - (T - A - 4)).tdiv 2⟩ := by unfold As.way; rw [himm, hlo, hhi]
        rw [hlo, hhi] at hrb
        have HLO := Lib.hid hlo
        have HHI := Lib.hid hhi
        have HWAY := Lib.hid hway
        obtain ⟨r1, r2, r3, r4⟩ := hrb
        obtain ⟨t1, t2⟩ := bT
        obtain ⟨k1, k2⟩ := bK
        have y1 : IntKind.i64.wrap (T - A) = T - A := IntWalk.i64_in _ (by omega)
        have y2 : IntKind.i64.wrap (T - A - 4) = T - A - 4 := IntWalk.i64_in _ (by omega)
        have i1 : (0 : Int) ≤ (to_ : Int) := by omega
        have i2 : (to_ : Int) < (n : Int) + 1 := by omega
        have i3 : (k : Int) < (n : Int) + 1 := by omega
        clear hlo hhi hway himm hcells hcv hwc hkey x0 x1 x2 x3 x4 x5 x6 x7 x8 x9
        go_quiet (fail)
        generalize hw4 : (wr.alloc (.cells #[.int .i64 2, .int .i64 label, .int .i64 op, .int .i64 rd, .int .i64 rn, .int .i64 rm, .int .i64 ra, .int .i64 imm, .int .i64 cond, .bool wide] 41)).drewN nq = w4
        have hB4 : Below w1.heap.size w1 w4 := by rw [← hw4]; exact below_drewN hBa nq
        have hrow4 : w4.ownsRow w1.heap.size 82 4 u5 (As.wys L (As.lay L [] 0) f k).length ((As.wys L (As.lay L [] 0) f k).flatMap wayC) := by
          rw [← hw4]; exact hrow.kept (row := none) (grown_below (below_drewN ((Below.refl _ _).alloc (Nat.le_refl _) _) nq)) (Classical.em _)
        have hop : w4.cell? ⟨wr.heap.size, 2, none⟩ = some (.int .i64 op) := by rw [← hw4]; exact (it_alloc wr 41 2 label op rd rn rm ra imm cond wide).2.2.1
        have y3 : IntKind.i64.wrap (hh - (T - A - 4)) = hh - (T - A - 4) := IntWalk.i64_in _ (by omega)
        have y4 : IntKind.i64.wrap (T - A - 4 - lo) = T - A - 4 - lo := IntWalk.i64_in _ (by omega)
        have z3 := tdiv2_bd (hh - (T - A - 4)) (by omega) (by omega)
        have z4 := tdiv2_bd (T - A - 4 - lo) (by omega) (by omega)
        have y5 : IntKind.i64.wrap ((hh - (T - A - 4)).tdiv 2) = (hh - (T - A - 4)).tdiv 2 := IntWalk.i64_in _ (by omega)
        have y6 : IntKind.i64.wrap ((T - A - 4 - lo).tdiv 2) = (T - A - 4 - lo).tdiv 2 := IntWalk.i64_in _ (by omega)
        clear hw4 hcT hcK hBa hrow y1 y2 z3 z4
        rcases Nat.lt_trichotomy to_ k with hc | hc | hc
        · have hc' : (to_ : Int) < (k : Int) := by omega
          have hc2 : ¬ (k : Int) < (to_ : Int) := by omega
          go_wp2_with (first | (go_at_call 14; refine (reach_lit _ _ _ _ HLO HHI).mono ?_; rintro e w5 ⟨rfl, rfl⟩) | (at_builtin; refine wpList_append_own _ rfl _ _ 59 rfl w1.heap.size 82 i0 (.agg #[.int .i64 0, .int .i64 0, .int .i64 0, .int .i64 0]) 4 32 Try.underlying59 hi hz0 hz1 hz2 rfl (by decide) _ _ _ rfl (hrow4.alloc _) ⟨w4.heap.size, 0, none⟩ 1 1 [.int .i64 (k : Int), .int .i64 (to_ : Int), .int .i64 (k : Int), .int .i64 ((T - A - 4 - lo).tdiv 2)] rfl rfl (cell4_new _ _ _ _ _ _) (by simp [Value.oneCell']) (by unfold maxLen; omega) (by omega) (by have := hB4.size; simp; omega) ?_; intro v' w3 hown' hgrow3 hnil3))
          have e1 : As.wys L (As.lay L [] 0) f (k + 1) = As.wys L (As.lay L [] 0) f k ++ [⟨k, to_, k, (T - A - 4 - lo).tdiv 2⟩] := by rw [HPS.out, HWAY.out]; rw [if_pos (by rfl), if_pos hc, if_neg (by omega), if_pos hc]
          refine ⟨⟨k + 1, by simp, by omega, ?_, (hB4.alloc hB4.size _).grown hgrow3 (by have := hB4.size; simp; omega) (own_ge hrow4)⟩, by simp [intOf]; omega⟩
          rw [e1, List.length_append, List.flatMap_append]
          exact hown'
        · subst hc
          go_wp2_with (first | (go_at_call 14; refine (reach_lit _ _ _ _ HLO HHI).mono ?_; rintro e w5 ⟨rfl, rfl⟩) | (at_builtin; refine wpList_append_own _ rfl _ _ 59 rfl w1.heap.size 82 i0 (.agg #[.int .i64 0, .int .i64 0, .int .i64 0, .int .i64 0]) 4 32 Try.underlying59 hi hz0 hz1 hz2 rfl (by decide) _ _ _ rfl (hrow4.alloc _) ⟨w4.heap.size, 0, none⟩ 1 1 [.int .i64 (to_ : Int), .int .i64 (to_ : Int), .int .i64 (to_ : Int), .int .i64 ((hh - (T - A - 4)).tdiv 2)] rfl rfl (cell4_new _ _ _ _ _ _) (by simp [Value.oneCell']) (by unfold maxLen; omega) (by omega) (by have := hB4.size; simp; omega) ?_; intro v' w3 hown' hgrow3 hnil3))
          have e1 : As.wys L (As.lay L [] 0) f (to_ + 1) = As.wys L (As.lay L [] 0) f to_ ++ [⟨to_, to_, to_, (hh - (T - A - 4)).tdiv 2⟩] := by rw [HPS.out, HWAY.out]; rw [if_pos (by rfl), if_neg (by omega), if_neg (by omega)]
          refine ⟨⟨to_ + 1, by simp, by omega, ?_, (hB4.alloc hB4.size _).grown hgrow3 (by have := hB4.size; simp; omega) (own_ge hrow4)⟩, by simp [intOf]; omega⟩
          rw [e1, List.length_append, List.flatMap_append]
          exact hown'
        · have hc' : (k : Int) < (to_ : Int) := by omega
          have hc2 : ¬ (to_ : Int) < (k : Int) := by omega
          go_wp2_with (first | (go_at_call 14; refine (reach_lit _ _ _ _ HLO HHI).mono ?_; rintro e w5 ⟨rfl, rfl⟩) | (at_builtin; refine wpList_append_own _ rfl _ _ 59 rfl w1.heap.size 82 i0 (.agg #[.int .i64 0, .int .i64 0, .int .i64 0, .int .i64 0]) 4 32 Try.underlying59 hi hz0 hz1 hz2 rfl (by decide) _ _ _ rfl (hrow4.alloc _) ⟨w4.heap.size, 0, none⟩ 1 1 [.int .i64 (k : Int), .int .i64 (k : Int), .int .i64 (to_ : Int), .int .i64 ((hh - (T - A - 4)).tdiv 2)] rfl rfl (cell4_new _ _ _ _ _ _) (by simp [Value.oneCell']) (by unfold maxLen; omega) (by omega) (by have := hB4.size; simp; omega) ?_; intro v' w3 hown' hgrow3 hnil3))
          have e1 : As.wys L (As.lay L [] 0) f (k + 1) = As.wys L (As.lay L [] 0) f k ++ [⟨k, k, to_, (hh - (T - A - 4)).tdiv 2⟩] := by rw [HPS.out, HWAY.out]; rw [if_pos (by rfl), if_neg (by omega), if_pos hc, if_neg (by omega)]
          refine ⟨⟨k + 1, by simp, by omega, ?_, (hB4.alloc hB4.size _).grown hgrow3 (by have := hB4.size; simp; omega) (own_ge hrow4)⟩, by simp [intOf]; omega⟩
          rw [e1, List.length_append, List.flatMap_append]
          exact hown'
      · have hk2 : (kind == 2) = false := by simpa using hk1
        have hk3 : (kind != 2) = true := by simpa using hk1
        have e1 : As.wys L (As.lay L [] 0) f (k + 1) = As.wys L (As.lay L [] 0) f k := by rw [HPS.out, hk2]; simp
        have E1 := Lib.hid e1
        clear e1 hk2
        go_wp2
        exact ⟨⟨k + 1, by simp, by omega, by rw [E1.out]; exact hrow.alloc _, hB.alloc hB.size _⟩, by simp [intOf]; omega⟩
    · have hge : ¬ (k : Int) < (n : Int) := by omega
      obtain rfl : k = n := by omega
      go_wp2
      go_ret
      exact ⟨_, rfl, ownsRow_base hrow HB1.out.size, HBw.out⟩
end Go.Proofs.Ytplfpaffjaldoaa
