/-
  The document's own Assemble of layer 4.
-/
import Derived.Test.YtplfpaffjaldoaaAsmI
import Derived.Test.YtplfpaffjaldoaaAsmO
namespace Go.Proofs.Ytplfpaffjaldoaa
open Go.ChangeShapes Go.WideShapes Go.ChangeAt Go.RowKit
set_option linter.unusedVariables false
set_option linter.unusedSimpArgs false

set_option maxHeartbeats 16000000 in
set_option maxRecDepth 100000 in
theorem rasm_no (pl : Option Addr) (cl n : Nat) (base E : Int) (w : World) (hE : ¬ E = 0) (C1 : Hid (∀ w : World, w = w → True)) (C : Hid (Calls Try.prog 22 #[.slice pl n cl, .int .i64 base] w fun e w' => e = .returned (.int .i64 E) ∧ Below w.heap.size w w')) :
    Calls Try.prog 8 #[.slice pl n cl, .int .i64 base] w fun e w' => e = .returned (.tuple #[.string ⟨#[]⟩, .slice none 0 0, .int .i64 E]) ∧ Below w.heap.size w w' := by
  go_enter Try.func8, Try.ntmps8
  go_wp2_with (go_at_call 22; refine C.out.mono ?_; rintro e w1 ⟨rfl, hb1⟩)
  go_ret3
  exact ⟨rfl, hb1⟩
theorem kind_of {kind label : Int} {i : Th.Ins} (h : As.nn ⟨kind, label, i⟩ = false) (h1 : ¬ kind = 1) (h0 : ¬ kind = 0) : kind = 2 := by
  unfold As.nn As.none' at h
  dsimp only at h
  apply Classical.byContradiction
  intro h2
  simp [h0, h1, h2] at h
theorem slice_cellB {W : World} {p : Addr} {n c : Nat} {L : List Bool} (h : SliceC boolC 1 W (.slice (some p) n c) L) (k : Nat) (hk : k < L.length) : (p.add k).block < W.heap.size := by
  obtain ⟨p', c', e', hat⟩ := h
  obtain ⟨a, hp, hOn⟩ := hat k hk
  injection e' with ep en ec
  rw [hp] at ep
  obtain rfl := Option.some.inj ep
  have h0 := hOn 0 _ rfl
  rw [add_zero', Nat.mul_one] at h0
  exact cell_lt h0
theorem cell_on {w3 wr wx : World} {p : Addr} {v : Value} (hB : Below w3.heap.size w3 wr) (hp : p.block < w3.heap.size) (h : wr.cell? p = some v) (hBx : Below w3.heap.size w3 wx) : wx.cell? p = some v := by
  rw [hBx.cell hp, ← hB.cell hp]; exact h
theorem lab_on {w3 wr wx : World} {p q : Addr} {u v : Value} (hB : Below w3.heap.size w3 wr) (hp : p.block < w3.heap.size) (hq : q.block < w3.heap.size) (h : wr.cell? p = some u) (h' : wr.cell? q = some v) (hBx : Below w3.heap.size w3 wx) : Below w3.heap.size w3 wx ∧ wx.cell? p = some u ∧ wx.cell? q = some v :=
  ⟨hBx, cell_on hB hp h hBx, cell_on hB hq h' hBx⟩
theorem bra_on {w3 wr wx : World} {p q s : Addr} {u v x : Value} (hB : Below w3.heap.size w3 wr) (hp : p.block < w3.heap.size) (hq : q.block < w3.heap.size) (hs : s.block < w3.heap.size) (h : wr.cell? p = some u) (h' : wr.cell? q = some v) (h'' : wr.cell? s = some x) (hBx : Below w3.heap.size w3 wx) : Below w3.heap.size w3 wx ∧ wx.cell? p = some u ∧ wx.cell? q = some v ∧ wx.cell? s = some x :=
  ⟨hBx, cell_on hB hp h hBx, cell_on hB hq h' hBx, cell_on hB hs h'' hBx⟩
theorem renc_lit (op rd rn rm ra imm cond : Int) (wide : Bool) (s : ByteArray) (w : World) (h : Hid (Th.encS ⟨op, rd, rn, rm, ra, imm, cond, wide⟩ = s)) (hc : Hid (Th.check ⟨op, rd, rn, rm, ra, imm, cond, wide⟩ = 0)) :
    Calls Try.prog 25 #[.agg #[.int .i64 op, .int .i64 rd, .int .i64 rn, .int .i64 rm, .int .i64 ra, .int .i64 imm, .int .i64 cond, .bool wide]] w fun e w' => e = .returned (.tuple #[.string s, .int .i64 0]) ∧ Below w.heap.size w w' := by
  have := rencode_any op rd rn rm ra imm cond wide w
  rw [h.out, hc.out] at this
  exact this
set_option maxHeartbeats 16000000 in
set_option maxRecDepth 100000 in
theorem rasm_ok (pl : Option Addr) (cl n : Nat) (L : List As.It) (base : Int) (w : World) (hn : Hid (L.length = n)) (hb : n ≤ 100000) (hL : Hid (SliceC itC 10 w (.slice pl n cl) L)) (hc : Hid (As.check L base = 0)) (hf : Hid (As.findE L = 0)) (CD : List UInt8) (hCD : Hid (As.code L base = CD))
    (C0 : Hid (Calls Try.prog 22 #[.slice pl n cl, .int .i64 base] w fun e w' => e = .returned (.int .i64 0) ∧ Below w.heap.size w w')) :
    Calls Try.prog 8 #[.slice pl n cl, .int .i64 base] w fun e w' => ∃ v, e = .returned (.tuple #[.string ⟨CD.toArray⟩, v, .int .i64 0]) ∧ SliceC plC 2 w' v (As.plcs L base) ∧ Below w.heap.size w w' := by
  obtain ⟨k0, hk0i, hy0, hy1, hy2⟩ := info_parts Try.infoPlace
  have G := Lib.hid (good_of hc.out hf.out)
  have HBS := Lib.hid (none_of hc.out).1
  have hwlen : (As.wl L).length = n := by unfold As.wl; rw [As.wideL_len, hn.out]
  have HWN := Lib.hid hwlen
  clear hwlen
  have C1 : Hid (∀ w : World, SliceC itC 10 w (.slice pl n cl) L → Calls Try.prog 23 #[.slice pl n cl, .int .i64 base] w fun e w' => ∃ av, e = .returned (.slice (some av) n n) ∧ SliceC boolC 1 w' (.slice (some av) n n) (As.wl L) ∧ Below w.heap.size w w') := Lib.hid fun w h => rwide_any pl cl n L base w hn hb HBS.out.1 HBS.out.2.1 G (Lib.hid h)
  have C2 : Hid (∀ (w : World) (av : Addr), SliceC itC 10 w (.slice pl n cl) L → SliceC boolC 1 w (.slice (some av) n n) (As.wl L) → Calls Try.prog 24 #[.slice pl n cl, .int .i64 base, .slice (some av) n n] w fun e w' => ∃ a c, e = .returned (.slice (some a) (n + 1) c) ∧ (∀ k, k < n + 1 → w'.cell? (a.add k) = some (.int .i64 (As.at L (As.wl L) base k))) ∧ Below w.heap.size w w') := Lib.hid fun w av h1 h2 => by
    refine (rlay_any pl (some av) cl n n n L (As.wl L) base w hn HWN hb HBS.out.1 (by have := HBS.out; omega) (Lib.hid h1) (Lib.hid h2)).mono ?_
    rintro e w' ⟨v, rfl, hrow, hbl⟩
    have hl : (As.lay L (As.wl L) base).length = n + 1 := by rw [lat_len, hn.out]
    have hs : SliceC intC 1 w' v (As.lay L (As.wl L) base) := sliceC_own (f := intC) (sz := 1) (fun _ => rfl) (base := w.heap.size) (e := 3) (by
      rw [hl]
      unfold As.lay
      rw [hn.out]
      exact hrow)
    have hs' := hs
    obtain ⟨p, c, rfl, hat⟩ := hs'
    obtain ⟨a, rfl, -⟩ := hat 0 (by omega)
    rw [hl] at hs ⊢
    refine ⟨a, c, rfl, fun k hk => ?_, hbl⟩
    rw [slice_cell hs k (by omega), lay_get]
  go_enter Try.func8, Try.ntmps8
  go_wp2_with (first
    | (go_at_call 22; refine C0.out.mono ?_; rintro e w1 ⟨rfl, hb1⟩; have HB1 := Lib.hid hb1; clear hb1)
    | (go_at_call 23; refine (C1.out _ (hL.out.kept HB1.out)).mono ?_; rintro e w2 ⟨av, rfl, hs2, hb2⟩; have HS2 := Lib.hid hs2; have HB2 := Lib.hid (below_on HB1.out hb2 HB1.out.size); clear hs2 hb2)
    | (go_at_call 24; refine (C2.out _ _ (hL.out.kept HB2.out) HS2.out).mono ?_; rintro e w3 ⟨aa, ca, rfl, hat3, hb3⟩; have HA3 := Lib.hid hat3; have HS3 := Lib.hid (HS2.out.kept hb3); have HB3 := Lib.hid (below_on HB2.out hb3 HB2.out.size); clear hat3 hb3))
  go_loopw [10, 11, 12] (fun S P V W => ∃ k : Nat, V = .int .i64 (k : Int) ∧ S = .string ⟨(As.byt L (As.atL L base) (As.wl L) (As.fn L) k).toArray⟩ ∧ k ≤ n ∧ W.ownsRow w3.heap.size 43 2 P (As.pls L (As.atL L base) k).length ((As.pls L (As.atL L base) k).flatMap plC) ∧ Below w3.heap.size w3 W) (fun _ _ V _ => n - (intOf V).toNat)
  case atStart => exact ⟨0, rfl, rfl, Nat.zero_le _, World.ownsRow_nil _ _ _ _, Below.refl _ _⟩
  case round =>
    obtain ⟨k, rfl, rfl, hkn, hrow, hB⟩ := hrel
    by_cases hlt : k < n
    · have hkL : k < L.length := by rw [hn.out]; exact hlt
      have hlt' : (k : Int) < (n : Int) := by omega
      have k0' : (0 : Int) ≤ (k : Int) := by omega
      have k1' : (k : Int) < (n : Int) + 1 := by omega
      have hBw : Below w.heap.size w wr := below_on HB3.out hB HB3.out.size
      have hps := byt_succ L (As.atL L base) (As.wl L) (As.fn L) k hkL
      have hpl := byt_len L (As.atL L base) (As.wl L) (As.fn L) k (by omega)
      have hqs := pls_succ L (As.atL L base) k hkL (by unfold As.atL; rw [lat_len]; omega)
      have hql := pls_len L (As.atL L base) k (by omega) (by unfold As.atL; rw [lat_len]; omega)
      have hatk : (As.atL L base)[k]'(by unfold As.atL; rw [lat_len]; omega) = As.at L (As.wl L) base k := lay_get L (As.wl L) base k _
      rw [hatk] at hqs
      have HLW := Lib.hid (hL.out.kept hBw)
      have hokk := ok_of hc.out hf.out (by rw [hn.out]; exact hb) k hkL
      have hcA : ∀ j, j < n + 1 → wr.cell? (aa.add j) = some (.int .i64 (As.at L (As.wl L) base j)) := fun j hj => by
        have h := HA3.out j hj
        rw [hB.cell (cell_lt h)]; exact h
      obtain ⟨p8, c8, e8, hat8⟩ := HS3.out.kept hB
      obtain ⟨aw8, hp8, hOn8⟩ := hat8 k (by rw [HWN.out]; exact hlt)
      injection e8 with ep8 en8 ec8
      rw [hp8] at ep8
      obtain rfl := Option.some.inj ep8
      have hwv := hOn8 0 _ rfl
      rw [add_zero', Nat.mul_one] at hwv
      obtain ⟨wb, hwb⟩ : ∃ wb, As.wd (As.wl L) k = wb := ⟨_, rfl⟩
      have hwb2 : (As.wl L)[k]'(by rw [HWN.out]; exact hlt) = wb := by rw [← hwb]; unfold As.wd; rw [List.getD_eq_getElem?_getD, List.getElem?_eq_getElem (by rw [HWN.out]; exact hlt)]; rfl
      rw [hwb2] at hwv
      obtain ⟨p', c', e', hat⟩ := hL.out.kept hBw
      obtain ⟨a, hpa, hOn⟩ := hat k hkL
      injection e' with ep en ec
      rw [hpa] at ep
      subst ep
      rcases hx : L[k] with ⟨kind, label, ⟨op, rd, rn, rm, ra, imm, cond, wide⟩⟩
      rw [hx] at hOn hps hqs hokk
      dsimp only at hps hqs hokk
      obtain ⟨x0, x1, x2, x3, x4, x5, x6, x7, x8, x9⟩ := ItAt.of hOn
      have hp3 : (a.add (k * 10)).block < w3.heap.size := by
        obtain ⟨p9, c9, e9, hat9⟩ := hL.out.kept HB3.out
        obtain ⟨a9, hp9, hOn9⟩ := hat9 k hkL
        injection e9 with ep9 en9 ec9
        rw [hp9] at ep9
        obtain rfl := Option.some.inj ep9
        rw [hx] at hOn9
        exact cell_lt (ItAt.of hOn9).1
      have HP3 := Lib.hid hp3
      have HA3k := Lib.hid (cell_lt (HA3.out k (by omega)))
      have HW3k : Hid ((av.add k).block < w3.heap.size) := Lib.hid (by
        have h := (slice_cellB HS3.out k (by rw [HWN.out]; exact hlt))
        exact h)
      clear hp3
      obtain ⟨K, hK⟩ : ∃ K, As.at L (As.wl L) base k = K := ⟨_, rfl⟩
      have hcK := hcA k (by omega)
      rw [hK] at hcK hqs
      obtain ⟨sb, hsb⟩ : ∃ sb : ByteArray, (⟨(As.byt L (As.atL L base) (As.wl L) (As.fn L) k).toArray⟩ : ByteArray) = sb := ⟨_, rfl⟩
      have hsbz : sb.size ≤ 4 * k := by rw [← hsb]; show (As.byt L (As.atL L base) (As.wl L) (As.fn L) k).toArray.size ≤ _; rw [List.size_toArray]; exact hpl
      have HSB : Hid (∀ s : ByteArray, (⟨(As.byt L (As.atL L base) (As.wl L) (As.fn L) k ++ s.data.toList).toArray⟩ : ByteArray) = sb ++ s) := Lib.hid fun s => by rw [arr_app, arr_data, hsb]
      have HSB0 := Lib.hid hsb
      rw [hsb]
      have HPS := Lib.hid hps
      have HQS := Lib.hid hqs
      have HR := Lib.hid hrow
      have HB := Lib.hid hB
      have HX := Lib.hid hx
      have HOK := Lib.hid hokk
      have HItw := Lib.hid hOn
      have HCA := Lib.hid hcA
      have HWB := Lib.hid hwb
      have HK := Lib.hid hK
      have HQL := Lib.hid hql
      clear hOn8 hat8 hp8 en8 ec8 hat hpa ec en hOn hps hqs hpl hql hrow hB hx hokk hcA hwb hwb2 hK hatk hsb hBw
      by_cases hk1 : kind = 1
      · subst hk1
        have HP2 : Hid ((⟨(As.byt L (As.atL L base) (As.wl L) (As.fn L) (k + 1)).toArray⟩ : ByteArray) = sb) := Lib.hid (by rw [HPS.out, if_pos (by rfl), List.append_nil]; exact HSB0.out)
        have HQ2 : Hid (As.pls L (As.atL L base) (k + 1) = As.pls L (As.atL L base) k ++ [⟨label, K⟩]) := Lib.hid (by rw [HQS.out, if_pos (by rfl)])
        go_wp2
        have HLO := Lib.hid (fun wx => lab_on (wx := wx) HB.out (p := ⟨(a.add (k * 10)).block, (a.add (k * 10)).off + 1, none⟩) (q := aa.add k) HP3.out HA3k.out x1 hcK)
        refine wp_region_held_drew (S := fun wx => Below w3.heap.size w3 wx ∧ wx.cell? ⟨(a.add (k * 10)).block, (a.add (k * 10)).off + 1, none⟩ = some (.int .i64 label) ∧ wx.cell? (aa.add k) = some (.int .i64 K)) (by kernel_rfl) (HLO.out _ HB.out.drew) (fun hHeld => ?_)
        refine wpAnyH_take (i := 0) (v := ?_) rfl (by kernel_rfl) (by kernel_rfl) (by kernel_rfl) (fun _ _ _ h => h) (Or.inl ⟨by rfl, ?_⟩) (by assumption) ?_
        rotate_left
        · intro w hSw
          (try dsimp only at hSw)
          go_simp
          (try with_reducible rfl)
        (try simp only [Act.put, List.setIfInBounds_toArray, List.set_cons_zero, List.set_cons_succ])
        refine wpAnyH_take (i := 1) (v := ?_) rfl (by kernel_rfl) (by kernel_rfl) (by kernel_rfl) (fun _ _ _ h => h) (Or.inl ⟨by rfl, ?_⟩) (by assumption) ?_
        rotate_left
        · intro w hSw
          (try dsimp only at hSw)
          go_simp
          (try with_reducible rfl)
        (try simp only [Act.put, List.setIfInBounds_toArray, List.set_cons_zero, List.set_cons_succ])
        refine wpAnyH_take (i := 2) (v := ?_) rfl (by kernel_rfl) (by kernel_rfl) (by kernel_rfl) (fun _ _ _ h => h) (Or.inl ⟨by rfl, ?_⟩) (by assumption) ?_
        rotate_left
        · intro w hSw
          (try dsimp only at hSw)
          go_simp
          (try with_reducible rfl)
        (try simp only [Act.put, List.setIfInBounds_toArray, List.set_cons_zero, List.set_cons_succ])
        refine wpAnyH_take (i := 3) (v := ?_) rfl (by kernel_rfl) (by kernel_rfl) (by kernel_rfl) (fun _ _ _ h => h) (Or.inl ⟨by rfl, ?_⟩) (by assumption) ?_
        rotate_left
        · intro w hSw
          (try dsimp only at hSw)
          go_simp
          (try with_reducible rfl)
        (try simp only [Act.put, List.setIfInBounds_toArray, List.set_cons_zero, List.set_cons_succ])
        refine wpAnyH_take (i := 4) (v := ?_) rfl (by kernel_rfl) (by kernel_rfl) (by kernel_rfl) (fun _ _ _ h => h) (Or.inl ⟨by rfl, ?_⟩) (by assumption) ?_
        rotate_left
        · intro w hSw
          (try dsimp only at hSw)
          go_simp
          (try with_reducible rfl)
        (try simp only [Act.put, List.setIfInBounds_toArray, List.set_cons_zero, List.set_cons_succ])
        refine wpAnyH_take (i := 5) (v := ?_) rfl (by kernel_rfl) (by kernel_rfl) (by kernel_rfl) (fun _ _ _ h => h) (Or.inl ⟨by rfl, ?_⟩) (by assumption) ?_
        rotate_left
        · intro w hSw
          (try dsimp only at hSw)
          go_simp
          (try with_reducible rfl)
        (try simp only [Act.put, List.setIfInBounds_toArray, List.set_cons_zero, List.set_cons_succ])
        refine wpAnyH_take (i := 6) (v := ?_) rfl (by kernel_rfl) (by kernel_rfl) (by kernel_rfl) (fun _ _ _ h => h) (Or.inl ⟨by rfl, ?_⟩) (by assumption) ?_
        rotate_left
        · intro w hSw
          (try dsimp only at hSw)
          go_simp
          (try with_reducible rfl)
        (try simp only [Act.put, List.setIfInBounds_toArray, List.set_cons_zero, List.set_cons_succ])
        refine wpAnyH_take (i := 7) (v := ?_) rfl (by kernel_rfl) (by kernel_rfl) (by kernel_rfl) (fun _ _ _ h => h) (Or.inl ⟨by rfl, ?_⟩) (by assumption) ?_
        rotate_left
        · intro w hSw
          (try dsimp only at hSw)
          go_simp
          (try with_reducible rfl)
        (try simp only [Act.put, List.setIfInBounds_toArray, List.set_cons_zero, List.set_cons_succ])
        refine wpAnyH_take (i := 8) (v := ?_) rfl (by kernel_rfl) (by kernel_rfl) (by kernel_rfl) (fun _ _ _ h => h) (Or.inl ⟨by rfl, ?_⟩) (by assumption) ?_
        rotate_left
        · intro w hSw
          (try dsimp only at hSw)
          go_simp
          (try with_reducible rfl)
        (try simp only [Act.put, List.setIfInBounds_toArray, List.set_cons_zero, List.set_cons_succ])
        refine wpAnyH_take (i := 9) (v := ?_) rfl (by kernel_rfl) (by kernel_rfl) (by kernel_rfl) (fun _ _ _ h => h) (Or.inl ⟨by rfl, ?_⟩) (by assumption) ?_
        rotate_left
        · intro w hSw
          (try dsimp only at hSw)
          go_simp
          (try with_reducible rfl)
        (try simp only [Act.put, List.setIfInBounds_toArray, List.set_cons_zero, List.set_cons_succ])
        refine wpAnyH_take (i := 10) (v := ?_) rfl (by kernel_rfl) (by kernel_rfl) (by kernel_rfl) (fun _ _ _ h => h) (Or.inl ⟨by rfl, ?_⟩) (by assumption) ?_
        rotate_left
        · intro w hSw
          (try dsimp only at hSw)
          go_simp
          (try with_reducible rfl)
        (try simp only [Act.put, List.setIfInBounds_toArray, List.set_cons_zero, List.set_cons_succ])
        refine wpAnyH_ready (rs := [11]) (by kernel_rfl) (by simp) ?_
        refine AllReadyH.cons rfl (fun Kc hK => ?_) AllReadyH.nil
        go_simp
        refine hK.out _ _ (HLO.out _ (HB.out.drew.alloc (by have := HB.out.size; simpa using this) _)) (fun hHeld8 => ?_)
        clear hK Kc hHeld
        (try simp only [Act.put, List.setIfInBounds_toArray, List.set_cons_zero, List.set_cons_succ])
        refine wpAnyH_ready (rs := [12]) (by kernel_rfl) (by simp) ?_
        refine AllReadyH.cons rfl (fun Kc hK => ?_) AllReadyH.nil
        rw [if_pos (by rfl)]
        refine wp_append_own _ _ _ 25 rfl w3.heap.size 43 k0 (.agg #[.int .i64 0, .int .i64 0]) 2 16 Try.underlying25 hk0i hy0 hy1 hy2 rfl (by decide) _ _ _ rfl (HR.out.kept (row := none) (grown_below ((Below.refl _ _).drew.alloc (Nat.le_refl _) _)) (Classical.em _)) ⟨wr.heap.size, 0, none⟩ 1 1 [.int .i64 label, .int .i64 K] rfl rfl (cell2_new wr.drew _ _ _) (by simp [Value.oneCell']) (by have := HQL.out; unfold maxLen; omega) (by have := HQL.out; omega) (by have := HB.out.size; simpa using Nat.le_succ_of_le this) ?_
        intro v' w4 hown' hgrow4 hnil4
        have hB4 : Below w3.heap.size w3 w4 := Below.grown hHeld8.1 hgrow4 (by have := hHeld8.1.size; exact this) (own_ge HR.out)
        refine hK.out _ _ (HLO.out _ hB4) (fun hHeld => ?_)
        clear hK Kc
        (try simp only [Act.put, List.setIfInBounds_toArray, List.set_cons_zero, List.set_cons_succ])
        refine wpAnyH_take (i := 13) (v := ?_) rfl (by kernel_rfl) (by kernel_rfl) (by kernel_rfl) (fun _ _ _ h => h) (Or.inl ⟨by rfl, ?_⟩) (by assumption) ?_
        rotate_left
        · intro w hSw
          (try dsimp only at hSw)
          go_simp
          (try with_reducible rfl)
        (try simp only [Act.put, List.setIfInBounds_toArray, List.set_cons_zero, List.set_cons_succ])
        refine wpAnyH_done (by kernel_rfl) ?_ _
        go_wp2
        exact ⟨⟨k + 1, by simp, by rw [HP2.out], by omega, by rw [HQ2.out, List.length_append, List.flatMap_append]; exact hown', hB4⟩, by simp [intOf]; omega⟩
      · have q1 : (kind == 1) = false := by simpa using hk1
        have HQ2 : Hid (As.pls L (As.atL L base) (k + 1) = As.pls L (As.atL L base) k) := Lib.hid (by rw [HQS.out, q1]; simp)
        by_cases hk0 : kind = 0
        · subst hk0
          have hins : As.insAt (As.atL L base) (As.wl L) (As.fn L) k ⟨0, label, ⟨op, rd, rn, rm, ra, imm, cond, wide⟩⟩ = ⟨op, rd, rn, rm, ra, imm, cond, wide⟩ := by
            unfold As.insAt
            rw [if_neg (by simp)]
          have HC := Lib.hid (HOK.out (by decide))
          rw [show As.insAt (As.lay L (As.wideL L (As.fn L)) base) (As.wideL L (As.fn L)) (As.fn L) k ⟨0, label, ⟨op, rd, rn, rm, ra, imm, cond, wide⟩⟩ = ⟨op, rd, rn, rm, ra, imm, cond, wide⟩ from hins] at HC
          rw [hins] at HPS
          obtain ⟨s, hs⟩ : ∃ s, Th.encS ⟨op, rd, rn, rm, ra, imm, cond, wide⟩ = s := ⟨_, rfl⟩
          have hsz := enc_bd _ HC.out
          rw [hs] at HPS hsz
          have HS := Lib.hid hs
          obtain ⟨hz0, hz1⟩ := hsz
          have hcat : ¬ 9223372036854775807 < sb.size + s.size := by omega
          have HP2 : Hid ((⟨(As.byt L (As.atL L base) (As.wl L) (As.fn L) (k + 1)).toArray⟩ : ByteArray) = sb ++ s) := Lib.hid (by rw [HPS.out, if_neg (by decide)]; exact HSB.out s)
          clear hins hs HPS
          go_wp2_with (go_at_call 25; refine (renc_lit _ _ _ _ _ _ _ _ s _ HS HC).mono ?_; rintro e w4 ⟨rfl, hb4⟩; have HR4 := Lib.hid (HR.out.kept (row := none) (grown_below hb4) (Classical.em _)); have HB4 := Lib.hid (below_on HB.out hb4 HB.out.size); clear hb4)
          exact ⟨⟨k + 1, by simp, by rw [HP2.out], by omega, by rw [HQ2.out]; exact HR4.out, HB4.out⟩, by simp [intOf]; omega⟩
        · have hk2 : kind = 2 := by
            have h := (none_of hc.out).2.1 k hkL
            rw [HX.out] at h
            exact kind_of h hk1 hk0
          subst hk2
          obtain ⟨t, ht, hft, -⟩ := G.out.to k hkL (by rw [HX.out])
          rw [HX.out] at hft
          dsimp only at hft
          have htn : t < n := by rw [← hn.out]; exact ht
          obtain ⟨T, hT⟩ : ∃ T, As.at L (As.wl L) base t = T := ⟨_, rfl⟩
          have cT := HCA.out t (by omega)
          rw [hT] at cT
          have bT := As.at_bd L (As.wl L) base t
          have bK := As.at_bd L (As.wl L) base k
          rw [hT] at bT
          rw [HK.out] at bK
          have hbs := HBS.out
          have hatg : ∀ j, j < n + 1 → (As.atL L base).getD j 0 = As.at L (As.wl L) base j := fun j hj => by
            have hj2 : j < (As.atL L base).length := by unfold As.atL; rw [lat_len, hn.out]; exact hj
            rw [List.getD_eq_getElem?_getD, List.getElem?_eq_getElem hj2]
            exact lay_get L (As.wl L) base j _
          have hins : As.insAt (As.atL L base) (As.wl L) (As.fn L) k ⟨2, label, ⟨op, rd, rn, rm, ra, imm, cond, wide⟩⟩ = ⟨op, 0, 0, 0, 0, T - K - 4, cond, wb⟩ := by
            unfold As.insAt As.imm
            rw [if_pos (by rfl)]
            dsimp only
            rw [hft, HWB.out]
            show (⟨op, 0, 0, 0, 0, (As.atL L base).getD t 0 - (As.atL L base).getD k 0 - 4, cond, wb⟩ : Th.Ins) = _
            rw [hatg t (by omega), hatg k (by omega), hT, HK.out]
          have HC := Lib.hid (HOK.out (by decide))
          rw [show As.insAt (As.lay L (As.wideL L (As.fn L)) base) (As.wideL L (As.fn L)) (As.fn L) k ⟨2, label, ⟨op, rd, rn, rm, ra, imm, cond, wide⟩⟩ = ⟨op, 0, 0, 0, 0, T - K - 4, cond, wb⟩ from hins] at HC
          rw [hins] at HPS
          obtain ⟨s, hs⟩ : ∃ s, Th.encS ⟨op, 0, 0, 0, 0, T - K - 4, cond, wb⟩ = s := ⟨_, rfl⟩
          have hsz := enc_bd _ HC.out
          rw [hs] at HPS hsz
          have HS := Lib.hid hs
          obtain ⟨hz0, hz1⟩ := hsz
          have hcat : ¬ 9223372036854775807 < sb.size + s.size := by omega
          have HP2 : Hid ((⟨(As.byt L (As.atL L base) (As.wl L) (As.fn L) (k + 1)).toArray⟩ : ByteArray) = sb ++ s) := Lib.hid (by rw [HPS.out, if_neg (by decide)]; exact HSB.out s)
          have BLO := Lib.hid (fun wx => bra_on (wx := wx) (Below.refl wr.heap.size wr) (p := ⟨(a.add (k * 10)).block, (a.add (k * 10)).off + 2, none⟩) (q := ⟨(a.add (k * 10)).block, (a.add (k * 10)).off + 8, none⟩) (s := av.add k) (cell_lt x2) (cell_lt x8) (cell_lt hwv) x2 x8 hwv)
          have CO : Hid (∀ wx : World, Below wr.heap.size wr wx → Calls Try.prog 26 #[.slice (some a) n cl, .slice (some aa) (n + 1) ca, .int .i64 (k : Int)] wx fun e w' => e = .returned (.int .i64 (T - K - 4)) ∧ Below wx.heap.size wx w') := Lib.hid fun wx hbx => by
            refine (roffset_any a aa cl ca n k t L label T K wx hn hb hlt (Lib.hid (HLW.out.kept hbx)) (cell_on (Below.refl _ _) (cell_lt x1) x1 hbx) (Lib.hid (fndI_of hn.out hft)) htn (cell_on (Below.refl _ _) (cell_lt cT) cT hbx) (cell_on (Below.refl _ _) (cell_lt hcK) hcK hbx) (Lib.hid (by omega)) (Lib.hid (by omega))).mono ?_
            rintro e w' ⟨he, d, rfl⟩
            exact ⟨he, below_drewN (Below.refl _ _) d⟩
          clear hins hs HPS hft hT cT bT bK hbs hatg
          generalize hTK : T - K - 4 = D at CO HS HC
          clear hTK
          go_wp2
          refine wp_region_held_drew (S := fun wx => Below wr.heap.size wr wx ∧ wx.cell? ⟨(a.add (k * 10)).block, (a.add (k * 10)).off + 2, none⟩ = some (.int .i64 op) ∧ wx.cell? ⟨(a.add (k * 10)).block, (a.add (k * 10)).off + 8, none⟩ = some (.int .i64 cond) ∧ wx.cell? (av.add k) = some (.bool wb)) (by kernel_rfl) (BLO.out _ (Below.refl _ _).drew) (fun hHeld => ?_)
          refine wpAnyH_take (i := 0) (v := ?_) rfl (by kernel_rfl) (by kernel_rfl) (by kernel_rfl) (fun _ _ _ h => h) (Or.inl ⟨by rfl, ?_⟩) (by assumption) ?_
          rotate_left
          · intro w hSw
            (try dsimp only at hSw)
            go_simp
            (try with_reducible rfl)
          (try simp only [Act.put, List.setIfInBounds_toArray, List.set_cons_zero, List.set_cons_succ])
          refine wpAnyH_take (i := 1) (v := ?_) rfl (by kernel_rfl) (by kernel_rfl) (by kernel_rfl) (fun _ _ _ h => h) (Or.inl ⟨by rfl, ?_⟩) (by assumption) ?_
          rotate_left
          · intro w hSw
            (try dsimp only at hSw)
            go_simp
            (try with_reducible rfl)
          (try simp only [Act.put, List.setIfInBounds_toArray, List.set_cons_zero, List.set_cons_succ])
          refine wpAnyH_take (i := 2) (v := ?_) rfl (by kernel_rfl) (by kernel_rfl) (by kernel_rfl) (fun _ _ _ h => h) (Or.inl ⟨by rfl, ?_⟩) (by assumption) ?_
          rotate_left
          · intro w hSw
            (try dsimp only at hSw)
            go_simp
            (try with_reducible rfl)
          (try simp only [Act.put, List.setIfInBounds_toArray, List.set_cons_zero, List.set_cons_succ])
          refine wpAnyH_take (i := 3) (v := ?_) rfl (by kernel_rfl) (by kernel_rfl) (by kernel_rfl) (fun _ _ _ h => h) (Or.inl ⟨by rfl, ?_⟩) (by assumption) ?_
          rotate_left
          · intro w hSw
            (try dsimp only at hSw)
            go_simp
            (try with_reducible rfl)
          (try simp only [Act.put, List.setIfInBounds_toArray, List.set_cons_zero, List.set_cons_succ])
          refine wpAnyH_take (i := 4) (v := ?_) rfl (by kernel_rfl) (by kernel_rfl) (by kernel_rfl) (fun _ _ _ h => h) (Or.inl ⟨by rfl, ?_⟩) (by assumption) ?_
          rotate_left
          · intro w hSw
            (try dsimp only at hSw)
            go_simp
            (try with_reducible rfl)
          (try simp only [Act.put, List.setIfInBounds_toArray, List.set_cons_zero, List.set_cons_succ])
          refine wpAnyH_take (i := 5) (v := ?_) rfl (by kernel_rfl) (by kernel_rfl) (by kernel_rfl) (fun _ _ _ h => h) (Or.inl ⟨by rfl, ?_⟩) (by assumption) ?_
          rotate_left
          · intro w hSw
            (try dsimp only at hSw)
            go_simp
            (try with_reducible rfl)
          (try simp only [Act.put, List.setIfInBounds_toArray, List.set_cons_zero, List.set_cons_succ])
          refine wpAnyH_take (i := 6) (v := ?_) rfl (by kernel_rfl) (by kernel_rfl) (by kernel_rfl) (fun _ _ _ h => h) (Or.inl ⟨by rfl, ?_⟩) (by assumption) ?_
          rotate_left
          · intro w hSw
            (try dsimp only at hSw)
            go_simp
            (try with_reducible rfl)
          (try simp only [Act.put, List.setIfInBounds_toArray, List.set_cons_zero, List.set_cons_succ])
          refine wpAnyH_take (i := 7) (v := ?_) rfl (by kernel_rfl) (by kernel_rfl) (by kernel_rfl) (fun _ _ _ h => h) (Or.inl ⟨by rfl, ?_⟩) (by assumption) ?_
          rotate_left
          · intro w hSw
            (try dsimp only at hSw)
            go_simp
            (try with_reducible rfl)
          (try simp only [Act.put, List.setIfInBounds_toArray, List.set_cons_zero, List.set_cons_succ])
          refine wpAnyH_take (i := 8) (v := ?_) rfl (by kernel_rfl) (by kernel_rfl) (by kernel_rfl) (fun _ _ _ h => h) (Or.inl ⟨by rfl, ?_⟩) (by assumption) ?_
          rotate_left
          · intro w hSw
            (try dsimp only at hSw)
            go_simp
            (try with_reducible rfl)
          (try simp only [Act.put, List.setIfInBounds_toArray, List.set_cons_zero, List.set_cons_succ])
          refine wpAnyH_take (i := 9) (v := ?_) rfl (by kernel_rfl) (by kernel_rfl) (by kernel_rfl) (fun _ _ _ h => h) (Or.inl ⟨by rfl, ?_⟩) (by assumption) ?_
          rotate_left
          · intro w hSw
            (try dsimp only at hSw)
            go_simp
            (try with_reducible rfl)
          (try simp only [Act.put, List.setIfInBounds_toArray, List.set_cons_zero, List.set_cons_succ])
          refine wpAnyH_take (i := 10) (v := ?_) rfl (by kernel_rfl) (by kernel_rfl) (by kernel_rfl) (fun _ _ _ h => h) (Or.inl ⟨by rfl, ?_⟩) (by assumption) ?_
          rotate_left
          · intro w hSw
            (try dsimp only at hSw)
            go_simp
            (try with_reducible rfl)
          (try simp only [Act.put, List.setIfInBounds_toArray, List.set_cons_zero, List.set_cons_succ])
          refine wpAnyH_take (i := 11) (v := ?_) rfl (by kernel_rfl) (by kernel_rfl) (by kernel_rfl) (fun _ _ _ h => h) (Or.inl ⟨by rfl, ?_⟩) (by assumption) ?_
          rotate_left
          · intro w hSw
            (try dsimp only at hSw)
            go_simp
            (try with_reducible rfl)
          (try simp only [Act.put, List.setIfInBounds_toArray, List.set_cons_zero, List.set_cons_succ])
          refine wpAnyH_take (i := 12) (v := ?_) rfl (by kernel_rfl) (by kernel_rfl) (by kernel_rfl) (fun _ _ _ h => h) (Or.inl ⟨by rfl, ?_⟩) (by assumption) ?_
          rotate_left
          · intro w hSw
            (try dsimp only at hSw)
            go_simp
            (try with_reducible rfl)
          (try simp only [Act.put, List.setIfInBounds_toArray, List.set_cons_zero, List.set_cons_succ])
          refine wpAnyH_take (i := 13) (v := ?_) rfl (by kernel_rfl) (by kernel_rfl) (by kernel_rfl) (fun _ _ _ h => h) (Or.inl ⟨by rfl, ?_⟩) (by assumption) ?_
          rotate_left
          · intro w hSw
            (try dsimp only at hSw)
            go_simp
            (try with_reducible rfl)
          (try simp only [Act.put, List.setIfInBounds_toArray, List.set_cons_zero, List.set_cons_succ])
          refine wpAnyH_take (i := 14) (v := ?_) rfl (by kernel_rfl) (by kernel_rfl) (by kernel_rfl) (fun _ _ _ h => h) (Or.inl ⟨by rfl, ?_⟩) (by assumption) ?_
          rotate_left
          · intro w hSw
            (try dsimp only at hSw)
            go_simp
            (try with_reducible rfl)
          (try simp only [Act.put, List.setIfInBounds_toArray, List.set_cons_zero, List.set_cons_succ])
          refine wpAnyH_take (i := 16) (v := ?_) rfl (by kernel_rfl) (by kernel_rfl) (by kernel_rfl) (fun _ _ _ h => h) (Or.inl ⟨by rfl, ?_⟩) (by assumption) ?_
          rotate_left
          · intro w hSw
            (try dsimp only at hSw)
            go_simp
            (try with_reducible rfl)
          (try simp only [Act.put, List.setIfInBounds_toArray, List.set_cons_zero, List.set_cons_succ])
          refine wpAnyH_take (i := 17) (v := ?_) rfl (by kernel_rfl) (by kernel_rfl) (by kernel_rfl) (fun _ _ _ h => h) (Or.inl ⟨by rfl, ?_⟩) (by assumption) ?_
          rotate_left
          · intro w hSw
            (try dsimp only at hSw)
            go_simp
            (try with_reducible rfl)
          (try simp only [Act.put, List.setIfInBounds_toArray, List.set_cons_zero, List.set_cons_succ])
          refine wpAnyH_take (i := 18) (v := ?_) rfl (by kernel_rfl) (by kernel_rfl) (by kernel_rfl) (fun _ _ _ h => h) (Or.inl ⟨by rfl, ?_⟩) (by assumption) ?_
          rotate_left
          · intro w hSw
            (try dsimp only at hSw)
            go_simp
            (try with_reducible rfl)
          (try simp only [Act.put, List.setIfInBounds_toArray, List.set_cons_zero, List.set_cons_succ])
          refine wpAnyH_take (i := 19) (v := ?_) rfl (by kernel_rfl) (by kernel_rfl) (by kernel_rfl) (fun _ _ _ h => h) (Or.inl ⟨by rfl, ?_⟩) (by assumption) ?_
          rotate_left
          · intro w hSw
            (try dsimp only at hSw)
            go_simp
            (try with_reducible rfl)
          (try simp only [Act.put, List.setIfInBounds_toArray, List.set_cons_zero, List.set_cons_succ])
          refine wpAnyH_ready (rs := [15]) (by kernel_rfl) (by simp) ?_
          refine AllReadyH.cons rfl (fun K hK => ?_) AllReadyH.nil
          go_simp
          go_at_call 26; refine (CO.out _ hHeld.1).mono ?_; rintro e w4 ⟨rfl, hb4⟩
          refine hK.out _ _ (BLO.out _ (below_on hHeld.1 hb4 hHeld.1.size)) (fun hHeld => ?_)
          clear hK K
          (try simp only [Act.put, List.setIfInBounds_toArray, List.set_cons_zero, List.set_cons_succ])
          refine wpAnyH_take (i := 20) (v := ?_) rfl (by kernel_rfl) (by kernel_rfl) (by kernel_rfl) (fun _ _ _ h => h) (Or.inl ⟨by rfl, ?_⟩) (by assumption) ?_
          rotate_left
          · intro w hSw
            (try dsimp only at hSw)
            go_simp
            (try with_reducible rfl)
          (try simp only [Act.put, List.setIfInBounds_toArray, List.set_cons_zero, List.set_cons_succ])
          refine wpAnyH_ready (rs := [21]) (by kernel_rfl) (by simp) ?_
          refine AllReadyH.cons rfl (fun K hK => ?_) AllReadyH.nil
          go_simp
          go_at_call 25; refine (renc_lit _ _ _ _ _ _ _ _ s _ HS HC).mono ?_; rintro e w4 ⟨rfl, hb4⟩
          refine hK.out _ _ (BLO.out _ (below_on hHeld.1 hb4 hHeld.1.size)) (fun hHeld => ?_)
          clear hK K
          (try simp only [Act.put, List.setIfInBounds_toArray, List.set_cons_zero, List.set_cons_succ])
          refine wpAnyH_take (i := 22) (v := ?_) rfl (by kernel_rfl) (by kernel_rfl) (by kernel_rfl) (fun _ _ _ h => h) (Or.inl ⟨by rfl, ?_⟩) (by assumption) ?_
          rotate_left
          · intro w hSw
            (try dsimp only at hSw)
            go_simp
            (try with_reducible rfl)
          (try simp only [Act.put, List.setIfInBounds_toArray, List.set_cons_zero, List.set_cons_succ])
          refine wpAnyH_take (i := 23) (v := ?_) rfl (by kernel_rfl) (by kernel_rfl) (by kernel_rfl) (fun _ _ _ h => h) (Or.inl ⟨by rfl, ?_⟩) (by assumption) ?_
          rotate_left
          · intro w hSw
            (try dsimp only at hSw)
            go_simp
            (try with_reducible rfl)
          (try simp only [Act.put, List.setIfInBounds_toArray, List.set_cons_zero, List.set_cons_succ])
          refine wpAnyH_take (i := 24) (v := ?_) rfl (by kernel_rfl) (by kernel_rfl) (by kernel_rfl) (fun _ _ _ h => h) (Or.inl ⟨by rfl, ?_⟩) (by assumption) ?_
          rotate_left
          · intro w hSw
            (try dsimp only at hSw)
            go_simp
            (try with_reducible rfl)
          (try simp only [Act.put, List.setIfInBounds_toArray, List.set_cons_zero, List.set_cons_succ])
          refine wpAnyH_take (i := 25) (v := ?_) rfl (by kernel_rfl) (by kernel_rfl) (by kernel_rfl) (fun _ _ _ h => h) (Or.inl ⟨by rfl, ?_⟩) (by assumption) ?_
          rotate_left
          · intro w hSw
            (try dsimp only at hSw)
            go_simp
            (try with_reducible rfl)
          (try simp only [Act.put, List.setIfInBounds_toArray, List.set_cons_zero, List.set_cons_succ])
          refine wpAnyH_take (i := 26) (v := ?_) rfl (by kernel_rfl) (by kernel_rfl) (by kernel_rfl) (fun _ _ _ h => h) (Or.inl ⟨by rfl, ?_⟩) (by assumption) ?_
          rotate_left
          · intro w hSw
            (try dsimp only at hSw)
            go_simp
            (try with_reducible rfl)
          (try simp only [Act.put, List.setIfInBounds_toArray, List.set_cons_zero, List.set_cons_succ])
          refine wpAnyH_done (by kernel_rfl) ?_ _
          have HR5 := Lib.hid (HR.out.kept (row := none) (grown_below hHeld.1) (Classical.em _))
          have HB5 := Lib.hid (below_on HB.out hHeld.1 HB.out.size)
          clear hHeld
          go_wp2
          exact ⟨⟨k + 1, by simp, by rw [HP2.out], by omega, by rw [HQ2.out]; exact HR5.out, HB5.out⟩, by simp [intOf]; omega⟩
    · obtain rfl : k = n := by omega
      have hge : ¬ (k : Int) < (k : Int) := by omega
      have e1 : As.byt L (As.atL L base) (As.wl L) (As.fn L) k = CD := by rw [← hCD.out]; unfold As.code; rw [hn.out]
      rw [e1]
      have HR := Lib.hid hrow
      have HB := Lib.hid (below_on HB3.out hB HB3.out.size)
      clear e1 hrow hB
      go_wp2
      go_ret3
      exact ⟨_, rfl, by unfold As.plcs; rw [hn.out]; exact sliceC_own plC_len HR.out, HB.out⟩
end Go.Proofs.Ytplfpaffjaldoaa
