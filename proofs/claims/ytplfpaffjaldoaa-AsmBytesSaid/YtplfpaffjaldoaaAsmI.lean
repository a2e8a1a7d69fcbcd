/-
The document's own Lay and offset of layer 4, and what stage 4's Same returns.
The document's own Wide of layer 4.
The document's own wrong of layer 4.
-/
import Derived.Test.YtplfpaffjaldoaaAsmT
import Derived.Test.YtplfpaffjaldoaaAsmS
section
namespace Go.Proofs.Ytplfpaffjaldoaa
open Go.ChangeShapes Go.WideShapes Go.ChangeAt Go.RowKit
set_option linter.unusedVariables false
set_option linter.unusedSimpArgs false

theorem cell1_new (w : World) (x : Value) (t : TypeId) : ∀ j u, [x][j]? = some u → (w.alloc (.cells #[x] t)).cell? ((⟨w.heap.size, 0, none⟩ : Addr).add j) = some u := by
  intro j u hj
  have hlt : j < 1 := (List.getElem?_eq_some_iff.1 hj).1
  obtain rfl : j = 0 := by omega
  simp at hj
  subst hj
  rw [add_zero']
  simp [go_sem]
set_option maxHeartbeats 8000000 in
set_option maxRecDepth 100000 in
theorem rlay_any (pl pw : Option Addr) (cl cw n m : Nat) (L : List As.It) (wl : List Bool) (base : Int) (w : World) (hn : Hid (L.length = n)) (hm : Hid (wl.length = m)) (hb : n ≤ 100000) (h0 : 0 ≤ base) (h1 : base ≤ 1000000)
    (hL : Hid (SliceC itC 10 w (.slice pl n cl) L)) (hW : Hid (SliceC boolC 1 w (.slice pw m cw) wl)) :
    Calls Try.prog 24 #[.slice pl n cl, .int .i64 base, .slice pw m cw] w fun e w' => ∃ v, e = .returned v ∧ w'.ownsRow w.heap.size 3 1 v (n + 1) (As.latC L wl base (n + 1)) ∧ Below w.heap.size w w' := by
  obtain ⟨i0, hi, hz0, hz1, hz2⟩ := info_parts Try.infoInt'
  go_enter Try.func24, Try.ntmps24
  go_wp2
  go_loopw [7, 8, 9] (fun O A K wr => ∃ k : Nat, A = .int .i64 (As.at L wl base k) ∧ K = .int .i64 (k : Int) ∧ k ≤ n ∧ wr.ownsRow w.heap.size 3 1 O k (As.latC L wl base k) ∧ Below w.heap.size w wr) (fun _ _ K _ => n - (intOf K).toNat)
  case atStart => exact ⟨0, rfl, rfl, Nat.zero_le _, World.ownsRow_nil _ _ _ _, Below.refl _ _⟩
  case round =>
    obtain ⟨k, rfl, rfl, hk, hrow, hB⟩ := hrel
    have hbd := As.at_bd L wl base k
    have hlat := As.latC_succ L wl base k
    obtain ⟨A, hA⟩ : ∃ A, As.at L wl base k = A := ⟨_, rfl⟩
    rw [hA] at hbd hlat ⊢
    have HLat := Lib.hid hlat
    obtain ⟨hbd1, hbd2⟩ := hbd
    by_cases hlt : k < n
    · have hkL : k < L.length := by rw [hn.out]; exact hlt
      have hlt' : (k : Int) < (n : Int) := by omega
      obtain ⟨Z, hZ⟩ : ∃ Z, As.size L[k].kind L[k].ins (As.wd wl k) = Z := ⟨_, rfl⟩
      have hzb := As.size_bd L[k].kind L[k].ins (As.wd wl k)
      rw [hZ] at hzb
      obtain ⟨hzb1, hzb2⟩ := hzb
      have HAt : Hid (As.at L wl base (k + 1) = A + Z) := Lib.hid (by rw [As.at, hA, List.getElem?_eq_getElem hkL]; dsimp only; rw [hZ])
      have HZ : Hid (∀ h, As.size (L[k]'h).kind (L[k]'h).ins (As.wd wl k) = Z) := Lib.hid fun _ => hZ
      have s1 : wrap64 (A + Z) = A + Z := by unfold wrap64; omega
      have HR := Lib.hid hrow
      have HB := Lib.hid hB
      clear hA hlat hZ hrow hB
      go_wp2_with (first
        | (at_builtin; refine wpList_append_own _ rfl _ _ 46 rfl w.heap.size 3 i0 (.int .i64 0) 1 8 Try.underlying46 hi hz0 hz1 hz2 rfl (by decide) _ _ _ rfl (HR.out.alloc _) ⟨wr.heap.size, 0, none⟩ 1 1 [.int .i64 A] rfl rfl (cell1_new _ _ _) (by simp [Value.oneCell']) (by unfold maxLen; omega) (by omega) (by have := HB.out.size; simp; omega) ?_; intro v' w3 hown' hgrow3 hnil3; have HO := Lib.hid hown'; have HBx := Lib.hid ((HB.out.alloc HB.out.size _).grown hgrow3 (by have := HB.out.size; simp; omega) (own_ge HR.out)); clear hown' hgrow3 hnil3)
        | (go_at_call 43; refine (rasize_any pl pw cl cw n m k L wl _ hn hm (by omega) hlt (Lib.hid (hL.out.kept HBx.out)) (Lib.hid (hW.out.kept HBx.out)) Z HZ).mono ?_; rintro e w4 ⟨rfl, hb4⟩; have HO4 := Lib.hid (HO.out.kept (row := none) (grown_below hb4) (Classical.em _)); have HB4 := Lib.hid (below_on HBx.out hb4 HBx.out.size); clear hb4))
      exact ⟨⟨k + 1, by rw [HAt.out], by simp, by omega, by rw [HLat.out]; exact HO4.out, HB4.out⟩, by simp [intOf]; omega⟩
    · obtain rfl : k = n := by omega
      have hge : ¬ (k : Int) < (k : Int) := by omega
      have HR := Lib.hid hrow
      have HB := Lib.hid hB
      clear hA hlat hrow hB
      go_wp2_with (at_builtin; refine wpList_append_own _ rfl _ _ 46 rfl w.heap.size 3 i0 (.int .i64 0) 1 8 Try.underlying46 hi hz0 hz1 hz2 rfl (by decide) _ _ _ rfl (HR.out.alloc _) ⟨wr.heap.size, 0, none⟩ 1 1 [.int .i64 A] rfl rfl (cell1_new _ _ _) (by simp [Value.oneCell']) (by unfold maxLen; omega) (by omega) (by have := HB.out.size; simp; omega) ?_; intro v' w3 hown' hgrow3 hnil3; have HO := Lib.hid hown'; have HBx := Lib.hid ((HB.out.alloc HB.out.size _).grown hgrow3 (by have := HB.out.size; simp; omega) (own_ge HR.out)); clear hown' hgrow3 hnil3)
      go_ret
      exact ⟨_, rfl, by rw [HLat.out]; exact HO.out, HBx.out⟩
set_option maxHeartbeats 8000000 in
set_option maxRecDepth 100000 in
theorem roffset_any (a : Addr) (aa : Addr) (cl ca n k to_ : Nat) (L : List As.It) (label T K : Int) (w : World) (hn : Hid (L.length = n)) (hb : n ≤ 100000) (hk : k < n) (hL : Hid (SliceC itC 10 w (.slice (some a) n cl) L)) (hlab : w.cell? ⟨(a.add (k * 10)).block, (a.add (k * 10)).off + 1, none⟩ = some (.int .i64 label)) (hto : Hid (As.fndI L n label = (to_ : Int))) (ht : to_ < n)
    (hT : w.cell? (aa.add to_) = some (.int .i64 T)) (hK : w.cell? (aa.add k) = some (.int .i64 K)) (bT : Hid (-100000000 ≤ T ∧ T ≤ 100000000)) (bK : Hid (-100000000 ≤ K ∧ K ≤ 100000000)) :
    Calls Try.prog 26 #[.slice (some a) n cl, .slice (some aa) (n + 1) ca, .int .i64 (k : Int)] w fun e w' => e = .returned (.int .i64 (T - K - 4)) ∧ ∃ d, w' = w.drewN d := by
  have i0 : (0 : Int) ≤ (k : Int) := by omega
  have i1 : (k : Int) < (n : Int) := by omega
  have i2 : (k : Int) < (n : Int) + 1 := by omega
  have i3 : (0 : Int) ≤ (to_ : Int) := by omega
  have i4 : (to_ : Int) < (n : Int) + 1 := by omega
  have y1 : wrap64 (T - K) = T - K := by have := bT.out; have := bK.out; unfold wrap64; omega
  have y2 : wrap64 (T - K - 4) = T - K - 4 := by have := bT.out; have := bK.out; unfold wrap64; omega
  have C1 : Hid (∀ d, Calls Try.prog 42 #[.slice (some a) n cl, .int .i64 label] (w.drewN d) fun e w' => e = .returned (.int .i64 (to_ : Int)) ∧ w' = w.drewN d) := Lib.hid fun d => rfind_any (some a) cl n L label (w.drewN d) hn (by omega) (Lib.hid (hL.out.kept (below_drewN (Below.refl _ _) d))) _ hto
  go_enter Try.func26, Try.ntmps26
  go_wp2
  go_quiet ((go_at_call 42; refine Calls.quiet_of_same (C1.out _)))
  go_wp2
  go_ret
  exact ⟨by show Ending.returned (.int .i64 (wrap64 (T - K - 4))) = _; rw [y2], nq, rfl⟩
set_option maxRecDepth 100000 in
set_option maxHeartbeats 8000000 in
theorem psame_some (a b : Addr) (ca cb n : Nat) (L : List As.Pl) (w : World) (hn : Hid (L.length = n)) (hm : n ≤ 100000) (ha : Hid (∀ k (hk : k < L.length), OnC w (a.add (k * 2)) (plC L[k]))) (hb : Hid (∀ k (hk : k < L.length), OnC w (b.add (k * 2)) (plC L[k]))) :
    Calls Try.prog 9 #[.slice (some a) n ca, .slice (some b) n cb] w fun e w' => e = .returned (.bool true) ∧ Below w.heap.size w w' := by
  go_enter Try.func9, Try.ntmps9
  go_wp2
  go_loopw [5] (fun K wr => ∃ k : Nat, K = .int .i64 (k : Int) ∧ k ≤ n ∧ ∃ d, wr = w.drewN d) (fun K _ => n - (intOf K).toNat)
  case atStart => exact ⟨0, rfl, Nat.zero_le _, 0, rfl⟩
  case round =>
    obtain ⟨k, rfl, hk, d, rfl⟩ := hrel
    by_cases hlt : k < n
    · have hlt' : (k : Int) < (n : Int) := by omega
      have hk0 : (0 : Int) ≤ (k : Int) := by omega
      have hA := ha.out k (by rw [hn.out]; exact hlt)
      have hB := hb.out k (by rw [hn.out]; exact hlt)
      obtain ⟨⟨la, ad⟩, hi⟩ : ∃ i, L[k]'(by rw [hn.out]; exact hlt) = i := ⟨_, rfl⟩
      rw [hi] at hA hB
      have a0 : w.cell? (a.add (k * 2)) = some (.int .i64 la) := by have h := hA 0 _ rfl; rw [add_zero'] at h; exact h
      have a1 : w.cell? ⟨(a.add (k * 2)).block, (a.add (k * 2)).off + 1, none⟩ = some (.int .i64 ad) := hA 1 _ rfl
      have b0 : w.cell? (b.add (k * 2)) = some (.int .i64 la) := by have h := hB 0 _ rfl; rw [add_zero'] at h; exact h
      have b1 : w.cell? ⟨(b.add (k * 2)).block, (b.add (k * 2)).off + 1, none⟩ = some (.int .i64 ad) := hB 1 _ rfl
      clear hA hB hi
      go_wp2
      go_quiet (fail)
      go_wp2
      exact ⟨⟨k + 1, by simp, by omega, d + nq, rfl⟩, by simp [intOf]; omega⟩
    · have hge : ¬ (k : Int) < (n : Int) := by omega
      go_wp2
      go_ret
      exact ⟨rfl, below_drewN (Below.refl _ _) _⟩
set_option maxHeartbeats 4000000 in
theorem psame_none (p q : Option Addr) (ca cb : Nat) (w : World) :
    Calls Try.prog 9 #[.slice p 0 ca, .slice q 0 cb] w fun e w' => e = .returned (.bool true) ∧ Below w.heap.size w w' := by
  go_enter Try.func9, Try.ntmps9
  go_wp2
  go_loopw [5] (fun K wr => K = .int .i64 0 ∧ wr = w) (fun K _ => 0)
  case atStart => exact ⟨rfl, rfl⟩
  case round =>
    obtain ⟨rfl, rfl⟩ := hrel
    go_wp2
    go_ret
    exact ⟨rfl, Below.refl _ _⟩
/-- slices of the same places are the same -/
theorem psame_any (va vb : Value) (L : List As.Pl) (w : World) (hm : L.length ≤ 100000) (ha : SliceC plC 2 w va L) (hb : SliceC plC 2 w vb L) :
    Calls Try.prog 9 #[va, vb] w fun e w' => e = .returned (.bool true) ∧ Below w.heap.size w w' := by
  obtain ⟨p, ca, rfl, hp⟩ := ha
  obtain ⟨q, cb, rfl, hq⟩ := hb
  by_cases h0 : L.length = 0
  · rw [h0]; exact psame_none p q ca cb w
  · obtain ⟨a, rfl, -⟩ := hp 0 (by omega)
    obtain ⟨b, rfl, -⟩ := hq 0 (by omega)
    refine psame_some a b ca cb L.length L w (Lib.hid rfl) hm (Lib.hid fun k hk => ?_) (Lib.hid fun k hk => ?_)
    · obtain ⟨a', e, h⟩ := hp k hk
      obtain rfl := Option.some.inj e
      exact h
    · obtain ⟨a', e, h⟩ := hq k hk
      obtain rfl := Option.some.inj e
      exact h
end Go.Proofs.Ytplfpaffjaldoaa
end
section
namespace Go.Proofs.Ytplfpaffjaldoaa
open Go.ChangeShapes Go.WideShapes Go.ChangeAt Go.RowKit
set_option linter.unusedVariables false
set_option linter.unusedSimpArgs false

/-- how many are narrow -/
def As.falN (wl : List Bool) (n : Nat) : Nat := ((List.range n).filter fun j => !(As.wd wl j)).length
def As.falW (W : World) (aw : Addr) (n : Nat) : Nat := ((List.range n).filter fun j => match W.cell? (aw.add j) with | some (.bool b) => !b | _ => false).length
theorem falW_eq {W : World} {aw : Addr} {gw n : Nat} {wl : List Bool} (h : BoolsAt W aw gw wl) (hl : wl.length = n) : As.falW W aw n = As.falN wl n := by
  unfold As.falW As.falN
  congr 1
  apply List.filter_congr
  intro j hj
  have hj' : j < wl.length := by rw [hl]; exact List.mem_range.1 hj
  rw [h.cell j hj']
  unfold As.wd
  rw [List.getD_eq_getElem?_getD, List.getElem?_eq_getElem hj']
  rfl
theorem wd_set_self {wl : List Bool} {j : Nat} (hj : j < wl.length) : As.wd (wl.set j true) j = true := by
  unfold As.wd
  rw [List.getD_eq_getElem?_getD, List.getElem?_set_self hj]
  rfl
theorem wd_set_ne {wl : List Bool} {i j : Nat} (h : i ≠ j) : As.wd (wl.set j true) i = As.wd wl i := by
  unfold As.wd
  rw [List.getD_eq_getElem?_getD, List.getD_eq_getElem?_getD, List.getElem?_set_ne (fun e => h e.symm)]
theorem falN_set {wl : List Bool} {j n : Nat} (hj : j < n) (hl : wl.length = n) (h : As.wd wl j = false) : As.falN (wl.set j true) n < As.falN wl n := by
  unfold As.falN
  have hs := wd_set_self (wl := wl) (j := j) (by omega)
  have hn : (j :: (List.range n).filter fun i => !(As.wd (wl.set j true) i)).Nodup := by
    rw [List.nodup_cons]
    refine ⟨fun hm => ?_, List.nodup_range.filter _⟩
    rw [List.mem_filter, hs] at hm
    exact absurd hm.2 (by decide)
  have := As.len_sub hn (m := (List.range n).filter fun i => !(As.wd wl i)) (fun x hx => by
    rw [List.mem_cons] at hx
    rcases hx with rfl | hx
    · exact List.mem_filter.2 ⟨List.mem_range.2 hj, by rw [h]; rfl⟩
    · rw [List.mem_filter] at hx ⊢
      refine ⟨hx.1, ?_⟩
      by_cases e : x = j
      · subst e; rw [h]; rfl
      · rw [← wd_set_ne (wl := wl) e]; exact hx.2)
  simp only [List.length_cons] at this
  omega
theorem fndI_of {L : List As.It} {n : Nat} (hn : L.length = n) {label : Int} {t : Nat} (h : As.fn L label = some t) : As.fndI L n label = (t : Int) := by
  unfold As.fndI
  unfold As.fn at h
  rw [← hn, h]
theorem add_block (a : Addr) (j : Nat) : (a.add j).block = a.block := by unfold Addr.add; split <;> rfl
def boolN : Value → Nat | .bool true => 1 | _ => 0
/-- the inner loop's relation -/
def VIn (w : World) (L : List As.It) (n : Nat) (base : Int) (wl0 : List Bool) (aw aa : Addr) (gw : Nat) (V6 V8 : Value) (W : World) : Prop :=
  ∃ (i : Nat) (b : Bool) (wl : List Bool), V8 = .int .i64 (i : Int) ∧ V6 = .bool b ∧ i ≤ n ∧ wl.length = n ∧ (∀ j, As.wd wl j = true → As.wd (As.wideL L (As.fn L)) j = true) ∧ (∀ j, i ≤ j → As.wd wl j = As.wd wl0 j) ∧ (b = true → As.falN wl n < As.falN wl0 n) ∧
    (b = false → wl = wl0 ∧ ∀ j (hj : j < L.length), j < i → L[j].kind = 2 → As.wd wl0 j = false → ∀ t, As.fn L L[j].label = some t → As.inReach L[j].ins.op (As.dist L wl0 base j t)) ∧
    BoolsAt W aw gw wl ∧ (∀ j, j < n + 1 → W.cell? (aa.add j) = some (.int .i64 (As.at L wl0 base j))) ∧ Below w.heap.size w W
set_option maxHeartbeats 16000000 in
set_option maxRecDepth 100000 in
theorem rwide_any (pl : Option Addr) (cl n : Nat) (L : List As.It) (base : Int) (w : World) (hn : Hid (L.length = n)) (hb : n ≤ 100000) (h0 : 0 ≤ base) (h1 : base ≤ 262144) (g : Hid (As.Good L (As.fn L))) (hL : Hid (SliceC itC 10 w (.slice pl n cl) L)) :
    Calls Try.prog 23 #[.slice pl n cl, .int .i64 base] w fun e w' => ∃ av, e = .returned (.slice (some av) n n) ∧ SliceC boolC 1 w' (.slice (some av) n n) (As.wl L) ∧ Below w.heap.size w w' := by
  obtain ⟨j0, hj, hy0, hy1, hy2⟩ := info_parts Try.infoBool
  go_enter Try.func23, Try.ntmps23
  go_wp2_with (at_make; refine wpList_make_full _ rfl _ _ 45 rfl w.heap.size 4 j0 (.bool false) 1 Try.underlying45 hj hy0 hy1 .i64 .i64 _ _ n rfl rfl rfl rfl (by rw [hy2]; omega) (by unfold maxLen; omega) (Nat.le_refl _) ?_; intro w0 hown0 hgrow0; rw [made_bools] at hown0; have HB0 := Lib.hid (own_bools (by simp) hown0); have HB1 := Lib.hid ((Below.refl w.heap.size w).grown hgrow0 (Nat.le_refl _) (fun k e => by cases e)); clear hown0 hgrow0)
  generalize haw : (⟨w.heap.size, 0, none⟩ : Addr) = aw at HB0 ⊢
  clear haw
  go_loopw [6] (fun V6 W => ∃ (b : Bool) (wl : List Bool), V6 = .bool b ∧ wl.length = n ∧ (∀ j, As.wd wl j = true → As.wd (As.wideL L (As.fn L)) j = true) ∧ (b = false → As.ClosedI L (As.fn L) base wl) ∧ BoolsAt W aw w.heap.size wl ∧ Below w.heap.size w W) (fun V6 W => 2 * As.falW W aw n + boolN V6)
  case atStart => exact ⟨true, List.replicate n false, rfl, by simp, fun j h => by unfold As.wd at h; rw [List.getD_eq_getElem?_getD, List.getElem?_replicate] at h; split at h <;> simp at h, (fun h => by cases h), HB0.out, HB1.out⟩
  case round =>
    clear HB0 HB1
    obtain ⟨b, wl0, rfl, hl0, hsub, hcl, hBo, hB⟩ := hrel
    cases b with
    | false =>
      have hw := As.wide_eq g.out base wl0 (by rw [hl0, hn.out]) hsub (hcl rfl)
      rw [hw] at hBo
      have HS := Lib.hid (hBo.slice n)
      have HB := Lib.hid hB
      clear hBo hB hcl hsub hw
      go_wp2
      go_ret
      exact ⟨aw, rfl, by have := HS.out; rw [As.wideL_len, hn.out] at this; exact this, HB.out⟩
    | true =>
      have HS0 := Lib.hid hsub
      have HBo := Lib.hid hBo
      have HB := Lib.hid hB
      have HFW := Lib.hid (falW_eq hBo hl0)
      clear hsub hcl hBo hB
      obtain ⟨wo, hwo⟩ : ∃ wo, wo = wr := ⟨_, rfl⟩
      subst hwo
      have C1 : Hid (Calls Try.prog 24 #[.slice pl n cl, .int .i64 base, .slice (some aw) n n] wo fun e w' => ∃ a c, e = .returned (.slice (some a) (n + 1) c) ∧ a.block ≠ w.heap.size ∧ (∀ k, k < n + 1 → w'.cell? (a.add k) = some (.int .i64 (As.at L wl0 base k))) ∧ Below wo.heap.size wo w') := Lib.hid (by
        refine (rlay_any pl (some aw) cl n n n L wl0 base wo hn (Lib.hid hl0) hb h0 (by omega) (Lib.hid (hL.out.kept HB.out)) (Lib.hid (by have := HBo.out.slice n; rw [hl0] at this; exact this))).mono ?_
        rintro e w' ⟨v, rfl, hrow, hbl⟩
        have hl : (As.lay L wl0 base).length = n + 1 := by rw [lat_len, hn.out]
        have hs : SliceC intC 1 w' v (As.lay L wl0 base) := sliceC_own (f := intC) (sz := 1) (fun _ => rfl) (base := wo.heap.size) (e := 3) (by
          rw [hl]
          unfold As.lay
          rw [hn.out]
          exact hrow)
        have hs' := hs
        obtain ⟨p, c, rfl, hat⟩ := hs'
        obtain ⟨a, rfl, -⟩ := hat 0 (by omega)
        have hge := own_ge hrow a.block rfl
        have hlt := HBo.out.lt
        rw [hl] at hs ⊢
        refine ⟨a, c, rfl, by omega, fun k hk => ?_, hbl⟩
        rw [slice_cell hs k (by omega), lay_get])
      go_wp2_with (go_at_call 24; refine C1.out.mono ?_; rintro e w3 ⟨aa, c3, rfl, hne3, hat3, hb3⟩; have HNE := Lib.hid hne3; have HA3 := Lib.hid hat3; have HBo3 := Lib.hid (HBo.out.kept (grown_below hb3) (by simp)); have HB3 := Lib.hid (below_on HB.out hb3 HB.out.size); clear hne3 hat3 hb3)
      go_loopw [6, 8] (fun V6 V8 W => VIn w L n base wl0 aw aa w.heap.size V6 V8 W) (fun _ V8 _ => n - (intOf V8).toNat)
      case atStart => exact ⟨0, false, wl0, rfl, rfl, Nat.zero_le _, hl0, HS0.out, fun _ _ => rfl, (fun h => by cases h), fun _ => ⟨rfl, fun j _ h => absurd h (Nat.not_lt_zero _)⟩, HBo3.out, HA3.out, HB3.out⟩
      case round =>
        obtain ⟨i, b, wl, rfl, rfl, hin, hlw, hsw, hrest, hbt, hbf, hBow, hAw, hBw⟩ := hrel
        by_cases hlt : i < n
        · have hiL : i < L.length := by rw [hn.out]; exact hlt
          have hlt' : (i : Int) < (n : Int) := by omega
          have i0 : (0 : Int) ≤ (i : Int) := by omega
          obtain ⟨p', c', e', hat⟩ := hL.out.kept hBw
          obtain ⟨a, hpa, hOn⟩ := hat i hiL
          injection e' with ep en ec
          rw [hpa] at ep
          subst ep
          rcases hx : L[i] with ⟨kind, label, ⟨op, rd, rn, rm, ra, imm, cond, wide⟩⟩
          rw [hx] at hOn
          obtain ⟨x0, x1, x2, x3, x4, x5, x6, x7, x8, x9⟩ := ItAt.of hOn
          have hwi : As.wd wl i = As.wd wl0 i := hrest i (Nat.le_refl _)
          have hiw : i < wl.length := by omega
          have hwc := hBow.cell i hiw
          have hwo2 := hBow.open' i
          have hwd : wl[i] = As.wd wl0 i := by rw [← hwi]; unfold As.wd; rw [List.getD_eq_getElem?_getD, List.getElem?_eq_getElem hiw]; rfl
          rw [hwd] at hwc
          have nextR : ∀ W' : World, (kind = 2 → As.wd wl0 i = false → ∀ t, As.fn L label = some t → As.inReach op (As.dist L wl0 base i t)) → BoolsAt W' aw w.heap.size wl → (∀ j, j < n + 1 → W'.cell? (aa.add j) = some (.int .i64 (As.at L wl0 base j))) → Below w.heap.size w W' → VIn w L n base wl0 aw aa w.heap.size (.bool b) (.int .i64 ((i + 1 : Nat) : Int)) W' := fun W' h k1 k2 k3 =>
            ⟨i + 1, b, wl, rfl, rfl, by omega, hlw, hsw, fun j hj => hrest j (by omega), hbt, fun hf => ⟨(hbf hf).1, fun j hj hji => by
              by_cases hj2 : j < i
              · exact (hbf hf).2 j hj hj2
              · obtain rfl : j = i := by omega
                rw [hx]
                exact h⟩, k1, k2, k3⟩
          have HN := Lib.hid nextR
          have HBow := Lib.hid hBow
          have HAw := Lib.hid hAw
          have HBw := Lib.hid hBw
          have HX := Lib.hid hx
          have HSw := Lib.hid hsw
          have HRe := Lib.hid hrest
          have HOnI := Lib.hid (hL.out.kept hBw)
          have HWI := Lib.hid hwi
          have HBT := Lib.hid hbt
          have HBF := Lib.hid hbf
          clear hat hpa ec en hOn nextR hBow hAw hBw hsw hrest hbt hbf hwd hwi x3 x4 x5 x6 x7 x8 x9
          obtain ⟨c, hc⟩ : ∃ c, As.wd wl0 i = c := ⟨_, rfl⟩
          rw [hc] at hwc
          have HC := Lib.hid hc
          clear hc hx
          cases hk2 : (kind != 2) with
          | true =>
            go_wp2
            exact ⟨by have := HN.out wr (fun h => by rw [h] at hk2; cases hk2) HBow.out HAw.out HBw.out; simpa using this, by simp [intOf]; omega⟩
          | false =>
            obtain rfl : kind = 2 := by simpa using hk2
            cases c with
            | true =>
              go_wp2
              exact ⟨by have := HN.out wr (fun _ h => by rw [HC.out] at h; cases h) HBow.out HAw.out HBw.out; simpa using this, by simp [intOf]; omega⟩
            | false =>
              obtain ⟨lo, hlo⟩ : ∃ lo, Th.reachLo op false = lo := ⟨_, rfl⟩
              obtain ⟨hi, hhi⟩ : ∃ hi, Th.reachHi op false = hi := ⟨_, rfl⟩
              obtain ⟨t, ht, hft, ht1⟩ := g.out.to i hiL (by rw [HX.out])
              rw [HX.out] at hft
              have htn : t < n := by rw [← hn.out]; exact ht
              obtain ⟨T, hT⟩ : ∃ T, As.at L wl0 base t = T := ⟨_, rfl⟩
              obtain ⟨K, hK⟩ : ∃ K, As.at L wl0 base i = K := ⟨_, rfl⟩
              have cT := HAw.out t (by omega)
              have cK := HAw.out i (by omega)
              rw [hT] at cT
              rw [hK] at cK
              have bT := As.at_bd L wl0 base t
              have bK := As.at_bd L wl0 base i
              rw [hT] at bT
              rw [hK] at bK
              have HD : Hid (As.dist L wl0 base i t = T - K - 4) := Lib.hid (by unfold As.dist; rw [hT, hK])
              have CR : Hid (∀ w : World, Calls Try.prog 44 #[.int .i64 op, .bool false] w fun e w' => e = .returned (.tuple #[.int .i64 lo, .int .i64 hi]) ∧ w = w') := Lib.hid fun w => by
                have := rreach_any op false w
                rw [hlo, hhi] at this
                exact this
              have CO : Hid (Calls Try.prog 26 #[.slice (some a) n cl, .slice (some aa) (n + 1) c3, .int .i64 (i : Int)] wr fun e w' => e = .returned (.int .i64 (T - K - 4)) ∧ ∃ d, w' = wr.drewN d) := Lib.hid (roffset_any a aa cl c3 n i t L label T K wr hn hb hlt (Lib.hid HOnI.out) x1 (Lib.hid (fndI_of hn.out hft)) htn cT cK (Lib.hid (by omega)) (Lib.hid (by omega)))
              have HFT := Lib.hid hft
              have HLo := Lib.hid hlo
              have HHi := Lib.hid hhi
              clear hT hK hlo hhi cT cK bT bK hft
              by_cases d1 : T - K - 4 < lo ∨ hi < T - K - 4
              · have HOut : Hid (As.wd (As.wideL L (As.fn L)) i = true) := Lib.hid (As.sub_out g.out base wl0 HS0.out hiL (by rw [HX.out]) (by rw [HX.out]; exact HFT.out) (by rw [HX.out]; show ¬ As.inReach op _; rw [HD.out]; unfold As.inReach; rw [HLo.out, HHi.out]; omega))
                have HV : Hid (∀ dd, VIn w L n base wl0 aw aa w.heap.size (.bool true) (.int .i64 ((i + 1 : Nat) : Int)) ((wr.drewN dd).setCell (aw.add i) (.bool true))) := Lib.hid fun dd => by
                  have hBd := HBow.out.kept (row := none) (grown_below (below_drewN (Below.refl _ _) dd)) (by simp)
                  have haw := hBd.1
                  refine ⟨i + 1, true, wl.set i true, rfl, rfl, by omega, by rw [List.length_set]; exact hlw, fun j hj => ?_, fun j hj => ?_, fun _ => ?_, (fun h => by cases h), hBd.set i, fun j hj => ?_, (below_drewN HBw.out dd).setCell (p := aw.add i) (by rw [add_block, haw]; exact Nat.le_refl _) _⟩
                  · by_cases e : j = i
                    · subst e; exact HOut.out
                    · rw [wd_set_ne e] at hj; exact HSw.out j hj
                  · rw [wd_set_ne (by omega)]; exact HRe.out j (by omega)
                  · have h1 := falN_set hlt hlw (HWI.out.trans HC.out)
                    cases hb' : b with
                    | true => have := HBT.out hb'; omega
                    | false => rw [(HBF.out hb').1] at h1 ⊢; exact h1
                  · exact (hBd.grown i _).cell (a := aa.add j) (HAw.out j hj) (fun e => HNE.out (by rw [← add_block aa j]; exact Option.some.inj e))
                rcases d1 with d1 | d1
                all_goals (
                  go_wp2_with (first
                    | (go_at_call 44; refine (CR.out _).mono ?_; rintro e w6 ⟨rfl, rfl⟩)
                    | (go_at_call 26; refine CO.out.mono ?_; rintro e w6 ⟨rfl, dd, rfl⟩))
                  all_goals exact ⟨by have := HV.out dd; simpa using this, by simp [intOf]; omega⟩)
              · have d2 : ¬ T - K - 4 < lo := fun h => d1 (Or.inl h)
                have d3 : ¬ hi < T - K - 4 := fun h => d1 (Or.inr h)
                clear d1
                go_wp2_with (first
                  | (go_at_call 44; refine (CR.out _).mono ?_; rintro e w6 ⟨rfl, rfl⟩)
                  | (go_at_call 26; refine CO.out.mono ?_; rintro e w6 ⟨rfl, dd, rfl⟩))
                exact ⟨by
                  have := HN.out (wr.drewN dd) (fun _ _ t' ht' => by
                    rw [HFT.out] at ht'
                    obtain rfl := Option.some.inj ht'
                    rw [HD.out]
                    unfold As.inReach
                    rw [HLo.out, HHi.out]
                    omega) (HBow.out.kept (row := none) (grown_below (below_drewN (Below.refl _ _) dd)) (by simp)) HAw.out (below_drewN HBw.out dd)
                  simpa using this, by simp [intOf]; omega⟩
        · obtain rfl : i = n := by omega
          have hge : ¬ (i : Int) < (i : Int) := by omega
          have HR : Hid (BoolsAt wr aw w.heap.size wl) := Lib.hid hBow
          have HBx := Lib.hid hBw
          have HF := Lib.hid (falW_eq hBow hlw)
          have HT := Lib.hid hbt
          have HFl : Hid (b = false → As.ClosedI L (As.fn L) base wl) := Lib.hid fun h => by
            obtain ⟨rfl, hc⟩ := hbf h
            intro j hj hk hw t ht
            exact hc j hj (by rw [← hn.out]; exact hj) hk hw t ht
          have HFq : Hid (b = false → wl = wl0) := Lib.hid fun h => (hbf h).1
          have HSw := Lib.hid hsw
          clear hrest hbt hbf hBow hAw hBw hsw
          go_wp2
          refine ⟨⟨b, wl, rfl, hlw, HSw.out, HFl.out, HR.out, HBx.out⟩, ?_⟩
          rw [HF.out, HFW.out]
          cases b with
          | true => have := HT.out rfl; omega
          | false => rw [HFq.out rfl]; show 2 * _ + 0 < 2 * _ + 1; omega
end Go.Proofs.Ytplfpaffjaldoaa
end
section
namespace Go.Proofs.Ytplfpaffjaldoaa
open Go.ChangeShapes Go.WideShapes Go.ChangeAt Go.RowKit
set_option linter.unusedVariables false
set_option linter.unusedSimpArgs false

theorem none_may (op cond : Int) : As.none' 2 op cond = !(As.may op cond) := by
  unfold As.none' As.may
  by_cases h1 : op = 24
  · subst h1
    by_cases h2 : cond = 0
    · subst h2; decide
    · by_cases h3 : 0 ≤ cond
      · have h4 : ¬ cond ≤ 0 := by omega
        simp [Th.check, Th.fits, Th.known, Th.within, Th.most, Th.least, Th.none0, h2, h3, h4]
      · simp [Th.check, Th.fits, Th.known, Th.within, Th.most, Th.least, Th.none0, h2, h3]
  · by_cases h2 : op = 25
    · subst h2
      by_cases h3 : 0 ≤ cond
      · by_cases h4 : cond ≤ 13
        · simp [Th.check, Th.fits, Th.known, Th.within, Th.most, Th.least, Th.none0, Th.branch, Th.reaches, Th.reachLo, Th.reachHi, h3, h4]
        · simp [Th.check, Th.fits, Th.known, Th.within, Th.most, Th.least, Th.none0, h3, h4]
      · simp [Th.check, Th.fits, Th.known, Th.within, Th.most, Th.least, Th.none0, h3]
    · simp [h1, h2]
/-- an item that is none is so by its kind, or it is a branch that may not be -/
theorem nn_iff (x : As.It) : As.nn x = (decide (x.kind < 0) || decide (2 < x.kind) || (x.kind == 2 && !(As.may x.ins.op x.ins.cond))) := by
  unfold As.nn
  by_cases h2 : x.kind = 2
  · rw [h2, none_may]; simp
  · unfold As.none'
    by_cases h0 : x.kind = 0
    · rw [h0]; simp
    · by_cases h1 : x.kind = 1
      · rw [h1]; simp
      · simp [h0, h1, h2]; omega
theorem dup_at {L : List As.It} {i n : Nat} (hn : L.length = n) (hi : i < n) (h1 : (L[i]'(by omega)).kind = 1) : (As.fndI L n (L[i]'(by omega)).label ≠ (i : Int)) ↔ (As.fnd L i (L[i]'(by omega)).label).isSome = true := by
  have hs := fnd_succ L i (by omega) (L[i]'(by omega)).label
  unfold As.fndI
  cases hx : As.fnd L i (L[i]'(by omega)).label with
  | some j =>
    have hl := fnd_le L i n _ j (by omega) hx
    rw [hl]
    have hj : j < i := by
      unfold As.fnd at hx
      have := (List.findIdx?_eq_some_iff_getElem.1 hx).1
      rw [List.length_take] at this
      omega
    simp
    omega
  | none =>
    rw [hx] at hs
    have hL : As.isL (L[i]'(by omega)).label (L[i]'(by omega)) = true := by unfold As.isL; rw [h1]; simp
    simp only [hL, if_true] at hs
    rw [fnd_le L (i + 1) n _ i (by omega) hs]
    simp
theorem lost_at (L : List As.It) (n : Nat) (hn : L.length = n) (label : Int) : (As.fndI L n label < 0) ↔ (As.fnd L L.length label).isNone = true := by
  unfold As.fndI
  rw [← hn]
  cases As.fnd L L.length label with
  | none => simp
  | some j => simp
set_option maxHeartbeats 16000000 in
set_option maxRecDepth 100000 in
theorem rwrong_base (pl : Option Addr) (cl n : Nat) (base : Int) (w : World) (h : base < 0 ∨ 262144 < base ∨ (0 ≤ base ∧ base % 2 ≠ 0)) :
    Calls Try.prog 22 #[.slice pl n cl, .int .i64 base] w fun e w' => e = .returned (.int .i64 2) ∧ Below w.heap.size w w' := by
  rcases h with h | h | ⟨h1, h2⟩
  · go_enter Try.func22, Try.ntmps22
    go_wp2
    go_ret
    exact ⟨rfl, Below.refl _ _⟩
  · go_enter Try.func22, Try.ntmps22
    go_wp2
    go_ret
    exact ⟨rfl, Below.refl _ _⟩
  · have h3 : (base % 2 != 0) = true := by simpa using h2
    by_cases h4 : 262144 < base
    · go_enter Try.func22, Try.ntmps22
      go_wp2
      go_ret
      exact ⟨rfl, Below.refl _ _⟩
    · go_enter Try.func22, Try.ntmps22
      go_wp2
      go_ret
      exact ⟨rfl, Below.refl _ _⟩
set_option maxHeartbeats 16000000 in
set_option maxRecDepth 100000 in
theorem rwrong_in (pl : Option Addr) (cl n : Nat) (L : List As.It) (base R : Int) (w : World) (hn : Hid (L.length = n)) (hb : n ≤ 100000) (h0 : 0 ≤ base) (h1 : base ≤ 262144) (h2 : (base % 2 != 0) = false) (hL : Hid (SliceC itC 10 w (.slice pl n cl) L)) (hR : Hid (As.outE L base = R)) :
    Calls Try.prog 22 #[.slice pl n cl, .int .i64 base] w fun e w' => e = .returned (.int .i64 R) ∧ Below w.heap.size w w' := by
  have h0' : ¬ base < 0 := by omega
  have h1' : ¬ 262144 < base := by omega
  have HC : Hid (As.check L base = if L.any As.nn then 2 else As.bad L) := Lib.hid (by unfold As.check; rw [decide_eq_false h0', decide_eq_false h1', h2]; rfl)
  go_enter Try.func22, Try.ntmps22
  go_wp2
  go_loopw [5] (fun V W => ∃ i : Nat, V = .int .i64 (i : Int) ∧ i ≤ n ∧ Hid ((L.take i).any As.nn = false) ∧ Below w.heap.size w W) (fun V _ => n - (intOf V).toNat)
  case atStart => exact ⟨0, rfl, Nat.zero_le _, Lib.hid rfl, Below.refl _ _⟩
  case round =>
    obtain ⟨i, rfl, hin, HN, hB⟩ := hrel
    by_cases hlt : i < n
    · have hiL : i < L.length := by rw [hn.out]; exact hlt
      have hlt' : (i : Int) < (n : Int) := by omega
      have i0 : (0 : Int) ≤ (i : Int) := by omega
      obtain ⟨p', c', e', hat⟩ := hL.out.kept hB
      obtain ⟨a, hpa, hOn⟩ := hat i hiL
      injection e' with ep en ec
      rw [hpa] at ep
      subst ep
      rcases hx : L[i] with ⟨kind, label, ⟨op, rd, rn, rm, ra, imm, cond, wide⟩⟩
      rw [hx] at hOn
      obtain ⟨x0, x1, x2, x3, x4, x5, x6, x7, x8, x9⟩ := ItAt.of hOn
      have HX := Lib.hid hx
      have HB := Lib.hid hB
      clear hat hpa ec en hOn hx hB
      have htk := any_take As.nn L i hiL
      rw [HN.out, Bool.false_or, HX.out, nn_iff] at htk
      dsimp only at htk
      have HT := Lib.hid htk
      clear htk
      cases hnn : (decide (kind < 0) || decide (2 < kind) || (kind == 2 && !(As.may op cond))) with
      | true =>
        have HR2 : Hid (R = 2) := Lib.hid (by
          have hany : L.any As.nn = true := any_le As.nn L (i + 1) (by rw [HT.out]; exact hnn)
          have hc : As.check L base = 2 := by rw [HC.out, if_pos hany]
          rw [← hR.out]; unfold As.outE; rw [hc, if_neg (by decide)])
        by_cases k1 : kind < 0
        · go_wp2
          go_ret
          exact ⟨by rw [HR2.out]; rfl, HB.out⟩
        · by_cases k2 : 2 < kind
          · go_wp2
            go_ret
            exact ⟨by rw [HR2.out]; rfl, HB.out⟩
          · rw [decide_eq_false k1, decide_eq_false k2] at hnn
            simp only [Bool.false_or, Bool.and_eq_true, beq_iff_eq] at hnn
            obtain ⟨rfl, hm⟩ := hnn
            have hm2 : As.may op cond = false := by simpa using hm
            clear hm
            go_wp2_with (go_at_call 40; refine (rmay_any _ _ _ _ _ _ _ _ _).mono ?_; rintro e w4 ⟨rfl, hb4⟩; have HB4 := Lib.hid (below_on HB.out hb4 HB.out.size); clear hb4)
            go_ret
            exact ⟨by rw [HR2.out]; rfl, HB4.out⟩
      | false =>
        rw [hnn] at HT
        rw [Bool.or_eq_false_iff, Bool.or_eq_false_iff] at hnn
        obtain ⟨⟨k1, k2⟩, k3⟩ := hnn
        have k1' := of_decide_eq_false k1
        have k2' := of_decide_eq_false k2
        clear k1 k2
        by_cases k4 : kind = 2
        · subst k4
          have hm2 : As.may op cond = true := by simpa using k3
          clear k3
          go_wp2_with (go_at_call 40; refine (rmay_any _ _ _ _ _ _ _ _ _).mono ?_; rintro e w4 ⟨rfl, hb4⟩; have HB4 := Lib.hid (below_on HB.out hb4 HB.out.size); clear hb4)
          exact ⟨⟨i + 1, by simp, by omega, HT, HB4.out⟩, by simp [intOf]; omega⟩
        · have k5 : (kind == 2) = false := by simpa using k4
          clear k3
          go_wp2
          exact ⟨⟨i + 1, by simp, by omega, HT, HB.out⟩, by simp [intOf]; omega⟩
    · obtain rfl : i = n := by omega
      have hge : ¬ (i : Int) < (i : Int) := by omega
      have HNA : Hid (L.any As.nn = false) := Lib.hid (by have := HN.out; rw [List.take_of_length_le (by rw [hn.out]; exact Nat.le_refl _)] at this; exact this)
      have HB0 := Lib.hid hB
      clear HN hB
      go_wp2
      go_loopw [6] (fun V W => ∃ j : Nat, V = .int .i64 (j : Int) ∧ j ≤ i ∧ Hid (As.bad L = As.bad (L.drop j)) ∧ Below w.heap.size w W) (fun V _ => i - (intOf V).toNat)
      case atStart => exact ⟨0, rfl, Nat.zero_le _, Lib.hid rfl, HB0.out⟩
      case round =>
        clear HB0
        obtain ⟨j, rfl, hjn, HD, hB⟩ := hrel
        by_cases hjl : j < i
        · have hjL : j < L.length := by rw [hn.out]; exact hjl
          have hjl' : (j : Int) < (i : Int) := by omega
          have j0 : (0 : Int) ≤ (j : Int) := by omega
          obtain ⟨p', c', e', hat⟩ := hL.out.kept hB
          obtain ⟨a, hpa, hOn⟩ := hat j hjL
          injection e' with ep en ec
          rw [hpa] at ep
          subst ep
          rcases hx : L[j] with ⟨kind, label, ⟨op, rd, rn, rm, ra, imm, cond, wide⟩⟩
          rw [hx] at hOn
          obtain ⟨x0, x1, x2, x3, x4, x5, x6, x7, x8, x9⟩ := ItAt.of hOn
          have HX := Lib.hid hx
          have HB := Lib.hid hB
          clear hat hpa ec en hOn hx hB
          have hbd := bad_drop L j hjL
          rw [HX.out] at hbd
          dsimp only at hbd
          by_cases k0 : kind = 0
          · subst k0
            obtain ⟨c, hc⟩ : ∃ c, Th.check ⟨op, rd, rn, rm, ra, imm, cond, wide⟩ = c := ⟨_, rfl⟩
            have CC : Hid (∀ w : World, Calls Try.prog 41 #[.agg #[.int .i64 op, .int .i64 rd, .int .i64 rn, .int .i64 rm, .int .i64 ra, .int .i64 imm, .int .i64 cond, .bool wide]] w fun e w' => e = .returned (.int .i64 c) ∧ Below w.heap.size w w') := Lib.hid fun w => by
              have := rcheck_any op rd rn rm ra imm cond wide w
              rw [hc] at this
              exact this
            rw [hc, if_pos (by rfl)] at hbd
            clear hc
            by_cases c0 : c = 0
            · subst c0
              rw [if_pos (by rfl)] at hbd
              have HD2 : Hid (As.bad L = As.bad (L.drop (j + 1))) := Lib.hid (HD.out.trans hbd)
              clear hbd HD
              go_wp2_with (go_at_call 41; refine (CC.out _).mono ?_; rintro e w4 ⟨rfl, hb4⟩; have HB4 := Lib.hid (below_on HB.out hb4 HB.out.size); clear hb4)
              exact ⟨⟨j + 1, by simp, by omega, HD2, HB4.out⟩, by simp [intOf]; omega⟩
            · have cb : (c != 0) = true := by simpa using c0
              rw [if_neg (by simpa using c0)] at hbd
              have HR2 : Hid (R = c) := Lib.hid (by
                have hck : As.check L base = c := by rw [HC.out, HNA.out]; show As.bad L = c; rw [HD.out, hbd]
                rw [← hR.out]; unfold As.outE; rw [hck, if_neg c0])
              clear hbd HD
              go_wp2_with (go_at_call 41; first
                | (refine (CC.out _).mono ?_; rintro e w4 ⟨rfl, hb4⟩; have y2 := hb4.cell (p := ⟨(a.add (j * 10)).block, (a.add (j * 10)).off + 2, none⟩) (cell_lt x2); have y3 := hb4.cell (p := ⟨(a.add (j * 10)).block, (a.add (j * 10)).off + 3, none⟩) (cell_lt x3); have y4 := hb4.cell (p := ⟨(a.add (j * 10)).block, (a.add (j * 10)).off + 4, none⟩) (cell_lt x4); have y5 := hb4.cell (p := ⟨(a.add (j * 10)).block, (a.add (j * 10)).off + 5, none⟩) (cell_lt x5); have y6 := hb4.cell (p := ⟨(a.add (j * 10)).block, (a.add (j * 10)).off + 6, none⟩) (cell_lt x6); have y7 := hb4.cell (p := ⟨(a.add (j * 10)).block, (a.add (j * 10)).off + 7, none⟩) (cell_lt x7); have y8 := hb4.cell (p := ⟨(a.add (j * 10)).block, (a.add (j * 10)).off + 8, none⟩) (cell_lt x8); have y9 := hb4.cell (p := ⟨(a.add (j * 10)).block, (a.add (j * 10)).off + 9, none⟩) (cell_lt x9); rw [x2] at y2; rw [x3] at y3; rw [x4] at y4; rw [x5] at y5; rw [x6] at y6; rw [x7] at y7; rw [x8] at y8; rw [x9] at y9; clear x2 x3 x4 x5 x6 x7 x8 x9; have HB4 := Lib.hid (below_on HB.out hb4 HB.out.size); clear hb4)
                | (refine (CC.out _).mono ?_; rintro e w5 ⟨rfl, hb5⟩; have HB5 := Lib.hid (below_on HB4.out hb5 HB4.out.size); clear hb5))
              go_ret
              exact ⟨by rw [HR2.out]; rfl, HB5.out⟩
          · have k0b : (kind == 0) = false := by simpa using k0
            rw [if_neg (by simpa using k0)] at hbd
            have HD2 : Hid (As.bad L = As.bad (L.drop (j + 1))) := Lib.hid (HD.out.trans hbd)
            clear hbd HD
            go_wp2
            exact ⟨⟨j + 1, by simp, by omega, HD2, HB.out⟩, by simp [intOf]; omega⟩
        · obtain rfl : j = i := by omega
          have hge2 : ¬ (j : Int) < (j : Int) := by omega
          have HC0 : Hid (As.check L base = 0) := Lib.hid (by rw [HC.out, HNA.out]; show As.bad L = 0; rw [HD.out, List.drop_eq_nil_of_le (by rw [hn.out]; exact Nat.le_refl _)]; rfl)
          have HB0 := Lib.hid hB
          clear HD hB
          go_wp2
          go_loopw [7] (fun V W => ∃ q : Nat, V = .int .i64 (q : Int) ∧ q ≤ j ∧ Hid (As.dup L q = false) ∧ Below w.heap.size w W) (fun V _ => j - (intOf V).toNat)
          case atStart => exact ⟨0, rfl, Nat.zero_le _, Lib.hid rfl, HB0.out⟩
          case round =>
            clear HB0
            obtain ⟨q, rfl, hqn, HQ, hB⟩ := hrel
            by_cases hkl : q < j
            · have hkL : q < L.length := by rw [hn.out]; exact hkl
              have hkl' : (q : Int) < (j : Int) := by omega
              have k0' : (0 : Int) ≤ (q : Int) := by omega
              have HLW := Lib.hid (hL.out.kept hB)
              obtain ⟨p', c', e', hat⟩ := hL.out.kept hB
              obtain ⟨a, hpa, hOn⟩ := hat q hkL
              injection e' with ep en ec
              rw [hpa] at ep
              subst ep
              rcases hx : L[q] with ⟨kind, label, ⟨op, rd, rn, rm, ra, imm, cond, wide⟩⟩
              rw [hx] at hOn
              obtain ⟨x0, x1, x2, x3, x4, x5, x6, x7, x8, x9⟩ := ItAt.of hOn
              have HX := Lib.hid hx
              have HB := Lib.hid hB
              clear hat hpa ec en hOn hx hB x2 x3 x4 x5 x6 x7 x8 x9
              have hds := dup_succ L q hkL
              rw [HQ.out, Bool.false_or, HX.out] at hds
              dsimp only at hds
              by_cases k1 : kind = 1
              · subst k1
                have hda := dup_at (L := L) (i := q) hn.out hkl (by rw [HX.out])
                rw [HX.out] at hda
                dsimp only at hda
                obtain ⟨r, hr⟩ : ∃ r, As.fndI L j label = r := ⟨_, rfl⟩
                rw [hr] at hda
                have HRr := Lib.hid hr
                clear hr
                by_cases r0 : r = (q : Int)
                · have rb : (r != (q : Int)) = false := by simpa using r0
                  have HD2 : Hid (As.dup L (q + 1) = false) := Lib.hid (by
                    rw [hds]
                    show (true && _) = false
                    cases hz : (As.fnd L q label).isSome
                    · rfl
                    · exact absurd r0 (hda.2 hz))
                  clear hda hds HQ r0
                  go_wp2_with (go_at_call 42; refine (rfind_any _ _ _ L _ _ hn (by omega) (Lib.hid HLW.out) _ HRr).mono ?_; rintro e w4 ⟨rfl, rfl⟩)
                  exact ⟨⟨q + 1, by simp, by omega, HD2, HB.out⟩, by simp [intOf]; omega⟩
                · have rb : (r != (q : Int)) = true := by simpa using r0
                  have HR2 : Hid (R = 13) := Lib.hid (by
                    have hl1 : As.dup L (q + 1) = true := by rw [hds]; show (true && _) = true; rw [hda.1 r0]; rfl
                    have hl2 : As.dup L L.length = true := by
                      unfold As.dup at hl1 ⊢
                      rw [List.any_eq_true] at hl1 ⊢
                      obtain ⟨x, hx1, hx2⟩ := hl1
                      exact ⟨x, List.mem_range.2 (by have := List.mem_range.1 hx1; omega), hx2⟩
                    have hfe : As.findE L = 13 := by unfold As.findE; rw [hl2]; rfl
                    rw [← hR.out]; unfold As.outE; rw [HC0.out, if_pos rfl, hfe, if_neg (by decide)])
                  clear hda hds HQ r0
                  go_wp2_with (go_at_call 42; refine (rfind_any _ _ _ L _ _ hn (by omega) (Lib.hid HLW.out) _ HRr).mono ?_; rintro e w4 ⟨rfl, rfl⟩)
                  go_ret
                  exact ⟨by rw [HR2.out]; rfl, HB.out⟩
              · have k1b : (kind == 1) = false := by simpa using k1
                have HD2 : Hid (As.dup L (q + 1) = false) := Lib.hid (by rw [hds, k1b, Bool.false_and])
                clear hds HQ
                go_wp2
                exact ⟨⟨q + 1, by simp, by omega, HD2, HB.out⟩, by simp [intOf]; omega⟩
            · obtain rfl : q = j := by omega
              have hge3 : ¬ (q : Int) < (q : Int) := by omega
              have HDup := HQ
              have HB0 := Lib.hid hB
              clear HQ hB
              go_wp2
              go_loopw [8, 9] (fun A V W => ∃ k : Nat, V = .int .i64 (k : Int) ∧ A = .int .i64 (As.at L (List.replicate q true) 0 k) ∧ k ≤ q ∧ Hid (As.lost L k = false) ∧ Below w.heap.size w W) (fun _ V _ => q - (intOf V).toNat)
              case atStart => exact ⟨0, rfl, rfl, Nat.zero_le _, Lib.hid rfl, HB0.out⟩
              case round =>
                clear HB0
                obtain ⟨k, rfl, rfl, hkn, HLo, hB⟩ := hrel
                have hbd := As.at_bd L (List.replicate q true) 0 k
                obtain ⟨A, hA⟩ : ∃ A, As.at L (List.replicate q true) 0 k = A := ⟨_, rfl⟩
                rw [hA] at hbd ⊢
                obtain ⟨hb0, hb1⟩ := hbd
                by_cases hkl : k < q
                · have hkL : k < L.length := by rw [hn.out]; exact hkl
                  have hkl' : (k : Int) < (q : Int) := by omega
                  have k0' : (0 : Int) ≤ (k : Int) := by omega
                  have HLW := Lib.hid (hL.out.kept hB)
                  obtain ⟨p', c', e', hat⟩ := hL.out.kept hB
                  obtain ⟨a, hpa, hOn⟩ := hat k hkL
                  injection e' with ep en ec
                  rw [hpa] at ep
                  subst ep
                  rcases hx : L[k] with ⟨kind, label, ⟨op, rd, rn, rm, ra, imm, cond, wide⟩⟩
                  rw [hx] at hOn
                  obtain ⟨x0, x1, x2, x3, x4, x5, x6, x7, x8, x9⟩ := ItAt.of hOn
                  have HX := Lib.hid hx
                  have HB := Lib.hid hB
                  clear hat hpa ec en hOn hx hB x2 x3 x4 x5 x6 x7 x8 x9
                  have hls := lost_succ L k hkL
                  rw [HLo.out, Bool.false_or, HX.out] at hls
                  dsimp only at hls
                  have hwt : As.wd (List.replicate q true) k = true := by unfold As.wd; rw [List.getD_eq_getElem?_getD, List.getElem?_replicate, if_pos hkl]; rfl
                  have hAt : As.at L (List.replicate q true) 0 (k + 1) = A + As.size kind ⟨op, rd, rn, rm, ra, imm, cond, wide⟩ true := by
                    rw [As.at, hA, List.getElem?_eq_getElem hkL, HX.out]
                    dsimp only
                    rw [hwt]
                  clear hA hwt
                  by_cases k2 : kind = 2
                  · subst k2
                    have HAt : Hid (As.at L (List.replicate q true) 0 (k + 1) = A + 4) := Lib.hid (by rw [hAt]; rfl)
                    clear hAt
                    have s1 : wrap64 (A + 4) = A + 4 := by unfold wrap64; omega
                    obtain ⟨r, hr⟩ : ∃ r, As.fndI L q label = r := ⟨_, rfl⟩
                    have hla := lost_at L q hn.out label
                    rw [hr] at hla
                    have HRr := Lib.hid hr
                    clear hr
                    by_cases r0 : r < 0
                    · have HR2 : Hid (R = 12) := Lib.hid (by
                        have hl1 : As.lost L (k + 1) = true := by rw [hls]; show (true && _) = true; rw [hla.1 r0]; rfl
                        have hl2 : As.lost L L.length = true := by
                          unfold As.lost at hl1 ⊢
                          rw [List.take_length]
                          exact any_le _ L (k + 1) hl1
                        have hfe : As.findE L = 12 := by unfold As.findE; rw [hn.out] at hl2 ⊢; rw [HDup.out, hl2]; rfl
                        rw [← hR.out]; unfold As.outE; rw [HC0.out, if_pos rfl, hfe, if_neg (by decide)])
                      clear hla hls HLo
                      go_wp2_with (go_at_call 42; refine (rfind_any _ _ _ L _ _ hn (by omega) (Lib.hid HLW.out) _ HRr).mono ?_; rintro e w4 ⟨rfl, rfl⟩)
                      go_ret
                      exact ⟨by rw [HR2.out]; rfl, HB.out⟩
                    · have HL2 : Hid (As.lost L (k + 1) = false) := Lib.hid (by
                        rw [hls]
                        show (true && _) = false
                        cases hz : (As.fnd L L.length label).isNone
                        · rfl
                        · exact absurd (hla.2 hz) r0)
                      clear hla hls HLo
                      go_wp2_with (go_at_call 42; refine (rfind_any _ _ _ L _ _ hn (by omega) (Lib.hid HLW.out) _ HRr).mono ?_; rintro e w4 ⟨rfl, rfl⟩)
                      exact ⟨⟨k + 1, by simp, by rw [HAt.out], by omega, HL2, HB.out⟩, by simp [intOf]; omega⟩
                  · have k2b : (kind == 2) = false := by simpa using k2
                    have HL2 : Hid (As.lost L (k + 1) = false) := Lib.hid (by rw [hls, k2b, Bool.false_and])
                    obtain ⟨Z, hZ⟩ : ∃ Z, As.size kind ⟨op, rd, rn, rm, ra, imm, cond, wide⟩ false = Z := ⟨_, rfl⟩
                    have hzb := As.size_bd kind ⟨op, rd, rn, rm, ra, imm, cond, wide⟩ false
                    rw [hZ] at hzb
                    obtain ⟨z0, z1⟩ := hzb
                    have HAt : Hid (As.at L (List.replicate q true) 0 (k + 1) = A + Z) := Lib.hid (by
                      rw [hAt, ← hZ]
                      unfold As.size
                      rw [k2b]
                      rfl)
                    have HZ : Hid (∀ h, As.size (L[k]'h).kind (L[k]'h).ins (As.wd [] k) = Z) := Lib.hid fun _ => by rw [HX.out]; exact hZ
                    have s1 : wrap64 (A + Z) = A + Z := by unfold wrap64; omega
                    clear hZ hAt hls HLo
                    go_wp2_with (go_at_call 43; refine (rasize_any _ none _ 0 _ 0 k L [] _ hn (Lib.hid rfl) (by omega) hkl (Lib.hid HLW.out) (Lib.hid ⟨none, 0, rfl, fun k hk => absurd hk (Nat.not_lt_zero _)⟩) Z HZ).mono ?_; rintro e w4 ⟨rfl, hb4⟩; have HB4 := Lib.hid (below_on HB.out hb4 HB.out.size); clear hb4)
                    exact ⟨⟨k + 1, by simp, by rw [HAt.out], by omega, HL2, HB4.out⟩, by simp [intOf]; omega⟩
                · obtain rfl : k = q := by omega
                  have hge4 : ¬ (k : Int) < (k : Int) := by omega
                  have HAl : Hid (As.allLen L = A) := Lib.hid (by unfold As.allLen; rw [hn.out]; exact hA)
                  have HFE : Hid (As.findE L = 0) := Lib.hid (by unfold As.findE; rw [hn.out, HDup.out, HLo.out]; rfl)
                  have HB := Lib.hid hB
                  clear hA hB HLo
                  by_cases hbig : 262144 < A
                  · have HR2 : Hid (R = 5) := Lib.hid (by rw [← hR.out]; unfold As.outE; rw [HC0.out, if_pos rfl, HFE.out, if_pos rfl, HAl.out, if_pos hbig])
                    go_wp2
                    go_ret
                    exact ⟨by rw [HR2.out]; rfl, HB.out⟩
                  · have HR2 : Hid (R = 0) := Lib.hid (by rw [← hR.out]; unfold As.outE; rw [HC0.out, if_pos rfl, HFE.out, if_pos rfl, HAl.out, if_neg hbig])
                    go_wp2
                    go_ret
                    exact ⟨by rw [HR2.out]; rfl, HB.out⟩
end Go.Proofs.Ytplfpaffjaldoaa
end
