/-
The document's reader: what a word of the language makes, a number, or a name.
The document's reader: an expression, of any state.
-/
import Derived.Test.YtjfdcnggnldgdaaGreatDoorP31b
import Derived.Test.YtjfdcnggnldgdaaGreatDoorP24a
import Derived.Test.YtjfdcnggnldgdaaGreatDoorP31a
section
namespace Go.Proofs.YtjfdcnggnldgdaaGreatDoor
open Go.ChangeShapes Go.WideShapes Go.ChangeAt Go.RowKit
set_option linter.unusedVariables false
set_option linter.unusedSimpArgs false

theorem find_hit {s : List UInt8} : ∀ (l : List (List UInt8 × Int × Nat)) (i : Nat) (x : List UInt8 × Int × Nat), l[i]? = some x → (∀ j y, j < i → l[j]? = some y → y.1 ≠ s) → x.1 = s → l.find? (fun x => x.1 == s) = some x
  | [], i, x, h, _, _ => by cases h
  | y :: l, 0, x, h, _, e => by cases h; rw [List.find?_cons_of_pos (by simpa using e)]
  | y :: l, i + 1, x, h, g, e => by
    have h1 := g 0 y (Nat.succ_pos i) rfl
    rw [List.find?_cons_of_neg (by simpa using h1)]
    exact find_hit l i x (by simpa using h) (fun j z hj hz => g (j + 1) z (Nat.succ_lt_succ hj) (by simpa using hz)) e
theorem find_miss {s : List UInt8} (l : List (List UInt8 × Int × Nat)) (g : ∀ (j : Nat) (y : List UInt8 × Int × Nat), l[j]? = some y → y.1 ≠ s) : l.find? (fun x => x.1 == s) = none := by
  rw [List.find?_eq_none]
  intro y hy
  obtain ⟨j, hj⟩ := List.getElem?_of_mem hy
  simpa using g j y hj
def weS : Array Value := (Sx.wordsE.map fun x => Value.string (Lx.S x.1)).toArray
def weK : Array Value := (Sx.wordsE.map fun x => Value.int .i64 x.2.1).toArray
def weN : Array Value := (Sx.wordsE.map fun x => Value.int .i64 (x.2.2 : Int)).toArray
theorem we_get (k : Nat) (x : List UInt8 × Int × Nat) (h : Sx.wordsE[k]? = some x) : weS[k]? = some (.string (Lx.S x.1)) ∧ weK[k]? = some (.int .i64 x.2.1) ∧ weN[k]? = some (.int .i64 (x.2.2 : Int)) := by
  unfold weS weK weN
  simp [h]
theorem we_len : Sx.wordsE.length = 5 := rfl
theorem we_all : ∀ x ∈ Sx.wordsE, x.1 ≠ [] ∧ x.2.2 ≤ 3 ∧ (x.1 = Sx.wRor → x.2.1 = 16 ∧ x.2.2 = 1) := by decide
set_option maxHeartbeats 8000000 in
set_option maxRecDepth 100000 in
theorem rword_of (b : Nat) (L : List Lx.Tok) (hL : Sx.Ok L) (σ : Sx.R) (hs0 : σ.err = 0) (hX : ∀ τ, Sx.M L τ + 16 ≤ Sx.M L σ → rCX b L 0 τ) : rCW b L (Sx.text L σ) σ := by
  intro w P hP h0
  have HS := Lib.hid (St.start hP h0)
  have hat := HS.out.rat
  have ho0 := HS.out.ropn0
  obtain ⟨s, hs⟩ : ∃ s, Sx.text L σ = s := ⟨_, rfl⟩
  have HT := Lib.hid hs
  have hT : (Lx.S s).toList = s := by rw [Lib.toList_data]; rfl
  have HL := Lib.hid hL
  have HX := Lib.hid hX
  have HE := Lib.hid hs0
  have HO0 := Lib.hid (ho0 hs0)
  have HAT := Lib.hid hat
  rw [hs]
  clear h0 hP hL hX hs0 ho0 hat hs
  go_enter Tryz.func246, Tryz.ntmps246
  go_wp2_with (first
    | (refine wpl_alloc HS.out _ rfl exZ ?_; intro b_r w1 HS1; clear HS; obtain ⟨a1, cap1, t1, m1, e1, p1, hr, hs3⟩ := HS1.out.rrOpen; have HR1 := Lib.hid hr; have HO1 := Lib.hid hs3; clear hs3 hr))
  have hb_1 := rr_bound HR1.out
  obtain ⟨hb0_1, hb1_1, hb2_1⟩ := hb_1
  refine wp_region_held_drew (S := fun w' => w'.cell? ⟨b, 0, none⟩ = some (.slice (some a1) L.length cap1) ∧ w'.cell? ⟨b, 1, none⟩ = some (.int .i64 (t1 : Int)) ∧ OnC w' (a1.add (t1 * 4)) (tkC (Sx.tk L σ))) (by kernel_rfl) (⟨HO1.out.drew.cell 0 rfl 0, HO1.out.drew.cell 0 rfl 1, toks_t ((HO1.out.drew.sep.pick 1 rfl).choose_spec.choose_spec.2.2.2.1) HR1.out⟩) (fun hHeld => ?_)
  refine tkH 0 ?_
  refine tkH 1 ?_
  refine tkH 2 ?_
  refine tkH 3 ?_
  refine tkH 4 ?_
  refine tkH 5 ?_
  refine tkH 6 ?_
  refine tkH 7 ?_
  refine tkH 8 ?_
  refine tkY 9 (yieldsIf_tok (by rfl) rfl (fun _ h => h.2.2)) ?_
  refine wpAnyH_ready (rs := [10]) (by kernel_rfl) (by simp) ?_
  refine AllReadyH.cons rfl (fun K hK => ?_) AllReadyH.nil
  (refine wp_alloc HO1.out.drew _ rfl tokZ ?_; intro b_2 w_2a HA2; clear HS1)
  refine hK.out _ _ (⟨HA2.out.cell 0 rfl 0, HA2.out.cell 0 rfl 1, toks_t ((HA2.out.sep.pick 2 rfl).choose_spec.choose_spec.2.2.2.1) HR1.out⟩) (fun hHeld => ?_)
  clear hK K
  (try simp only [Act.put, List.setIfInBounds_toArray, List.set_cons_zero, List.set_cons_succ, List.getElem_toArray, List.getElem_cons_succ, List.getElem_cons_zero])
  refine wpAnyH_ready (rs := [11]) (by kernel_rfl) (by simp) ?_
  refine AllReadyH.cons rfl (fun K hK => ?_) AllReadyH.nil
  (refine wp_storeS HA2.out 1 ⟨rfl, rfl⟩ rfl tokT rfl (fitsT _ _ _ _) ?_; intro w2 hs; have HT2 := Lib.hid (show St _ _ _ (_ :: _ :: _ :: _ :: []) from hs.out); clear hs HA2)
  refine hK.out _ _ (⟨HT2.out.cell 0 rfl 0, HT2.out.cell 0 rfl 1, toks_t ((HT2.out.sep.pick 2 rfl).choose_spec.choose_spec.2.2.2.1) HR1.out⟩) (fun hHeld => ?_)
  clear hK K
  (try simp only [Act.put, List.setIfInBounds_toArray, List.set_cons_zero, List.set_cons_succ, List.getElem_toArray, List.getElem_cons_succ, List.getElem_cons_zero])
  refine wpAnyH_done (by kernel_rfl) ?_ _
  have HO2 := Lib.hid (HT2.out.sel [0, 1, 0, 0] rfl)
  clear HT2
  have HS2 := Lib.hid (HO2.out.rrClose HR1.out)
  clear HO2
  go_wp2_with (first
    | (first | (refine wpl_sliceN (cs := weS) HS2.out rfl Tryz.underlying155 (by kernel_rfl) ?_; intro b_w w3 HS3; clear HS2) | (refine wpl_sliceN (cs := weK) HS3.out rfl Tryz.underlying111 (by kernel_rfl) ?_; intro b_k w4 HS4; clear HS3) | (refine wpl_sliceN (cs := weN) HS4.out rfl Tryz.underlying111 (by kernel_rfl) ?_; intro b_m w5 HS5; clear HS4)))
  have HI := Lib.hid (show St P w w5 [rr b L σ, .row b_m 3 weN, .row b_k 3 weK, .row b_w 9 weS, .row b_2 77 (tkA (Sx.tk L σ).kind (Sx.tk L σ).pos (Sx.tk L σ).num (Lx.S (Sx.tk L σ).text)), .row b_r 55 (exA 0 0 0 [] (.slice none 0 0))] from HS5.out.sel [3, 0, 0, 0, 0, 0] rfl)
  clear HS5
  go_loopw [9] (fun K wr => ∃ i : Nat, i ≤ 5 ∧ K = .int .i64 (i : Int) ∧ Hid (St P w wr [rr b L σ, .row b_m 3 weN, .row b_k 3 weK, .row b_w 9 weS, .row b_2 77 (tkA (Sx.tk L σ).kind (Sx.tk L σ).pos (Sx.tk L σ).num (Lx.S (Sx.tk L σ).text)), .row b_r 55 (exA 0 0 0 [] (.slice none 0 0))] ∧ ∀ j y, j < i → Sx.wordsE[j]? = some y → y.1 ≠ s)) (fun K _ => 5 - (intOf K).toNat)
  case atStart => exact ⟨0, Nat.zero_le _, rfl, Lib.hid ⟨HI.out, fun j y hj => absurd hj (Nat.not_lt_zero j)⟩⟩
  case round =>
    obtain ⟨i, hi, rfl, HK⟩ := hrel
    clear HI
    by_cases hlt : i < 5
    · have hltI : (i : Int) < 5 := by omega
      obtain ⟨x, hx⟩ : ∃ x, Sx.wordsE[i]? = some x := ⟨_, List.getElem?_eq_getElem (by rw [we_len]; exact hlt)⟩
      obtain ⟨g1, g2, g3⟩ := we_get i x hx
      have e1 : wr.cell? ⟨b_w, i, none⟩ = some (.string (Lx.S x.1)) := (HK.out.1.cell 3 rfl i).trans g1
      have e2 : wr.cell? ⟨b_k, i, none⟩ = some (.int .i64 x.2.1) := (HK.out.1.cell 2 rfl i).trans g2
      have hT2 : (Lx.S x.1).toList = x.1 := by rw [Lib.toList_data]; rfl
      have HXX := Lib.hid hx
      by_cases hp : x.1 = s
      · have HP := Lib.hid hp
        have g : (x.1 == s) = true := by simpa using hp
        have c21 : wr.cell? ⟨b_2, 1, none⟩ = some (.int .i64 ((Sx.tk L σ).pos : Int)) := HK.out.1.cell 4 rfl 1
        clear hx g1 hp
        go_wp2
        have hall := we_all x (List.mem_of_getElem? HXX.out)
        refine wp_region_heldL (S := fun w' => w'.cell? ⟨b_k, i, none⟩ = some (.int .i64 x.2.1) ∧ w'.cell? ⟨b_2, 1, none⟩ = some (.int .i64 ((Sx.tk L σ).pos : Int))) 8 (by kernel_rfl) (⟨(HK.out.1.drew.cell 2 rfl i).trans g2, HK.out.1.drew.cell 4 rfl 1⟩) (fun hHeld => ?_)
        refine tkL 0 ?_
        refine tkL 1 ?_
        refine tkL 2 ?_
        refine tkL 3 ?_
        refine tkL 4 ?_
        refine tkL 5 ?_
        refine tkL 6 ?_
        refine wpAnyL_one (i := 7) (by kernel_rfl) rfl (fun K hK => ?_)
        (refine wp_alloc HK.out.1.drew _ rfl exZ ?_; intro b_x w30 HA)
        refine hK.out _ _ (⟨(HA.out.cell 3 rfl i).trans g2, HA.out.cell 5 rfl 1⟩) (fun hHeld => ?_)
        clear hK K
        (try simp only [Act.put, List.setIfInBounds_toArray, List.set_cons_zero, List.set_cons_succ, List.getElem_toArray, List.getElem_cons_succ, List.getElem_cons_zero])
        refine wpAnyL_last (by kernel_rfl) rfl (by kernel_rfl) (fun K hK => ?_)
        (refine wp_storeS HA.out 1 ⟨rfl, rfl⟩ rfl exT rfl (fitsX rfl) ?_; intro w31 hs; have HS31 := Lib.hid (show St _ _ _ (_ :: _ :: _ :: _ :: _ :: _ :: _ :: []) from hs.out); clear hs HA)
        refine hK.out _ _ ?_
        clear hK K
        (try simp only [Act.put, List.setIfInBounds_toArray, List.set_cons_zero, List.set_cons_succ, List.getElem_toArray, List.getElem_cons_succ, List.getElem_cons_zero])
        have hkind : (Sx.tk L σ).kind ≠ 0 := Sx.text_kind (by rw [HT.out, ← HP.out]; exact hall.1)
        have HIN := Lib.hid ((Sx.le_next HL.out.ends HE.out hkind).2.2.1 HAT.out)
        have hMn := Sx.M_next HE.out HAT.out
        have C2 := Lib.hid (rnest_fn b L HL.out { σ with at' := σ.at' + 1 } [40] (by decide))
        have hop : (Sx.nest L [40] { σ with at' := σ.at' + 1 }).opn = σ.opn + 1 := Sx.op_nest L [40] _
        have hM1 : Sx.M L (Sx.nest L [40] { σ with at' := σ.at' + 1 }) + 16 ≤ Sx.M L σ := by have := Sx.M_le (Sx.le_nest HL.out.ends [40] (by decide) { σ with at' := σ.at' + 1 }); omega
        have hfind := find_hit Sx.wordsE i x HXX.out HK.out.2 HP.out
        obtain ⟨y0, hy0⟩ : ∃ y0, Sx.Mn L x.2.2 true (Sx.nest L [40] { σ with at' := σ.at' + 1 }) = y0 := ⟨_, rfl⟩
        generalize hs1 : Sx.nest L [40] { σ with at' := σ.at' + 1 } = σ1 at C2 hop hM1 hy0
        have HF := Lib.hid (And.intro hfind (And.intro hs1 (And.intro hy0 (And.intro hop (And.intro hM1 hall)))))
        clear hfind hs1 hy0 hop hM1 hall hkind hMn
        obtain ⟨a31, cap31, t31, m31, e31, p31, hr, hs3⟩ := HS31.out.rrOpen; have HR31 := Lib.hid hr; have HO31 := Lib.hid hs3; clear hs3 hr
        go_wp2_with (first
          | (refine wpl_load HO31.out 0 rfl rfl intO rfl ?_)
          | (refine wpl_store HO31.out 0 rfl rfl intO (of_decide_eq_true rfl) rfl ?_; intro w32x hs; have hs9 : St _ _ _ (.row b 75 #[.slice (some a31) L.length cap31, .int .i64 (wrap64 ((t31 : Int) + 1)), .int .i64 m31, .int .i64 e31, .int .i64 p31] :: .hp (toksHp a31 L) :: _ :: _ :: _ :: _ :: _ :: _ :: []) := hs.out; rw [(rr_bound HR31.out).2.2] at hs9; have HS32x := Lib.hid hs9; clear hs hs9 HS31 HO31; have HS32 := Lib.hid (HS32x.out.rrClose (rr_step HR31.out (HIN.out))); clear HS32x)
          | (go_at_call 133; refine (HS32.out.call1 C2.out).mono ?_; rintro e w33 ⟨J, ⟨rfl, rfl⟩, hs⟩; simp only [List.cons_append, List.nil_append] at hs; have HS33 := Lib.hid hs; clear hs HS32; have HS34 := Lib.hid (HS33.out.to fun P h => h.under fun P h => lsI_nil h); clear HS33))
        have HJ := Lib.hid (show St P w _ [rr b L σ1, lsI (.slice none 0 0) [], .row b_x 55 (exA x.2.1 ((Sx.tk L σ).pos : Int) 0 [] (.slice none 0 0)), .row b_m 3 weN, .row b_r 55 (exA 0 0 0 [] (.slice none 0 0))] from HS34.out.sel [0, 0, 0, 0, 3] rfl)
        clear HS34 e1 e2
        go_loopw [11] (fun K wq => ∃ (kk : Nat) (q : Option Addr) (c : Nat) (es : List Sx.E) (τ : Sx.R), kk ≤ x.2.2 ∧ K = .int .i64 (kk : Int) ∧ Hid (es.length = kk ∧ St P w wq [rr b L τ, lsI (.slice q kk c) es, .row b_x 55 (exA x.2.1 ((Sx.tk L σ).pos : Int) 0 [] (.slice q kk c)), .row b_m 3 weN, .row b_r 55 (exA 0 0 0 [] (.slice none 0 0))] ∧ τ.opn = σ.opn + 1 ∧ Sx.M L τ + 16 ≤ Sx.M L σ ∧ y0.2 = (Sx.Mn L (x.2.2 - kk) (decide (kk = 0)) τ).2 ∧ (τ.err = 0 → y0.1 = es ++ (Sx.Mn L (x.2.2 - kk) (decide (kk = 0)) τ).1))) (fun K _ => x.2.2 - (intOf K).toNat)
        case atStart =>
          exact ⟨0, none, 0, [], σ1, Nat.zero_le _, rfl, Lib.hid ⟨rfl, HJ.out, HF.out.2.2.2.1, HF.out.2.2.2.2.1, by rw [← HF.out.2.2.1]; rfl, fun _ => by rw [← HF.out.2.2.1]; rfl⟩⟩
        case round =>
          obtain ⟨kk, q, c, es, τ, hk, rfl, HQ⟩ := hrel
          clear HJ
          have hat := HQ.out.2.1.rat
          have e3 := (HQ.out.2.1.cell 3 rfl i).trans g3
          by_cases hkm : kk < x.2.2
          · have hkI : (kk : Int) < (x.2.2 : Int) := by omega
            have hnm : es.length < nMax := by rw [HQ.out.1]; have := HF.out.2.2.2.2.2.2.1; unfold nMax; omega
            have hkk : wrap64 ((kk : Int) + 1) = ((kk + 1 : Nat) : Int) := (by have := HF.out.2.2.2.2.2.2.1; simp only [wrap64]; omega)
            by_cases hk0 : kk = 0
            · subst hk0
              have hkz : ¬ (0 : Int) < ((0 : Nat) : Int) := by omega
              have HKD := Lib.hid (show decide ((0 : Nat) = 0) = true from rfl)
              have CY := Lib.hid (HX.out τ (by have := HQ.out.2.2.2.1; omega))
              have hX1 := Sx.M_le (Sx.le_X HL.out.ends 0 τ)
              have hX2 : (Sx.X L 0 τ).2.opn = σ.opn + 1 := by rw [Sx.op_X]; exact HQ.out.2.2.1
              have hsu := Sx.Mn_succ HL.out.ends (x.2.2 - (0 + 1)) true hat (by have := HF.out.2.2.2.2.2.2.1; omega)
              rw [show x.2.2 - (0 + 1) + 1 = x.2.2 - 0 by omega, if_pos (by decide)] at hsu
              have HY := Lib.hid (And.intro hsu (And.intro hX1 hX2))
              clear hsu hX1 hX2 hat
              have HS50 := Lib.hid HQ.out.2.1
              go_wp2
              refine wp_region_heldL (S := fun w' => w'.cell? ⟨b_x, 4, none⟩ = some (.slice q 0 c)) 7 (by kernel_rfl) (HS50.out.drew.cell 2 rfl 4) (fun hHeld => ?_)
              refine tkL 0 ?_
              refine tkL 1 ?_
              refine tkL 2 ?_
              refine wpAnyL_one (i := 3) (by kernel_rfl) rfl (fun K hK => ?_)
              go_simp
              (go_at_call 185; refine (HS50.out.drew.call1 CY.out).mono ?_; rintro e w51 ⟨J, ⟨k_a, p_a, n_a, nm_a, v_a, es_a, rfl, rfl, hx_a, h1_a⟩, hs⟩; simp only [List.cons_append, List.nil_append] at hs; have HS51 := Lib.hid hs; have HX_a := Lib.hid hx_a; clear hs hx_a HS50)
              refine hK.out _ _ (HS51.out.cell 3 rfl 4) (fun hHeld => ?_)
              clear hK K
              (try simp only [Act.put, List.setIfInBounds_toArray, List.set_cons_zero, List.set_cons_succ, List.getElem_toArray, List.getElem_cons_succ, List.getElem_cons_zero])
              refine wpAnyL_one (i := 4) (by kernel_rfl) rfl (fun K hK => ?_)
              (refine wp_slice HS51.out rfl Tryz.underlying51 (exB _ _ _ _ _) ?_; intro b_a w52 hs; have HS52 := Lib.hid (show St _ _ _ (_ :: _ :: _ :: _ :: _ :: _ :: _ :: []) from hs.out); clear hs HS51)
              refine hK.out _ _ (HS52.out.cell 4 rfl 4) (fun hHeld => ?_)
              clear hK K
              (try simp only [Act.put, List.setIfInBounds_toArray, List.set_cons_zero, List.set_cons_succ, List.getElem_toArray, List.getElem_cons_succ, List.getElem_cons_zero])
              refine wpAnyL_one (i := 5) (by kernel_rfl) rfl (fun K hK => ?_)
              (refine wp_appE HS52.out 0 rfl rfl Tryz.underlying51 h1_a hnm ?_; intro q_a c_a w53 hs; have HS53 := Lib.hid (show St _ _ _ (_ :: _ :: _ :: _ :: _ :: []) from hs.out); clear hs HS52)
              refine hK.out _ _ (HS53.out.cell 2 rfl 4) (fun hHeld => ?_)
              clear hK K
              (try simp only [Act.put, List.setIfInBounds_toArray, List.set_cons_zero, List.set_cons_succ, List.getElem_toArray, List.getElem_cons_succ, List.getElem_cons_zero])
              refine tkL 6 ?_
              refine wpAnyL_last (by kernel_rfl) rfl (by kernel_rfl) (fun K hK => ?_)
              (refine wp_store1 HS53.out 2 rfl rfl exprsO (of_decide_eq_true rfl) rfl ?_; intro w54 hs; have HS54 := Lib.hid (show St _ _ _ (_ :: _ :: _ :: _ :: _ :: []) from hs.out); clear hs HS53)
              refine hK.out _ _ ?_
              clear hK K
              (try simp only [Act.put, List.setIfInBounds_toArray, List.set_cons_zero, List.set_cons_succ, List.getElem_toArray, List.getElem_cons_succ, List.getElem_cons_zero])
              go_wp2
              refine ⟨⟨0 + 1, q_a, c_a, es ++ [.mk k_a p_a n_a nm_a es_a], (Sx.X L 0 τ).2, by omega, by first | rfl | exact congrArg (Value.int .i64) hkk, Lib.hid ⟨?_, ?_, HY.out.2.2, ?_, ?_, fun h => ?_⟩⟩, ?_⟩
              · rw [List.length_append, HQ.out.1]; rfl
              · have h9 := HS54.out
                rw [HQ.out.1] at h9
                exact h9
              · have := HY.out.2.1; have := HQ.out.2.2.2.1; omega
              · rw [HQ.out.2.2.2.2.1, HKD.out, HY.out.1]; rfl
              · rw [HQ.out.2.2.2.2.2 (Sx.Le.ok (Sx.le_X HL.out.ends 0 _) h), HKD.out, HY.out.1, HX_a.out h, List.append_assoc]; rfl
              · first | (rw [hkk]; simp [intOf]; omega) | (simp [intOf]; omega)
            · have hkz : (0 : Int) < (kk : Int) := by omega
              have HKD := Lib.hid (show decide (kk = 0) = false from decide_eq_false hk0)
              have CY := Lib.hid (HX.out (Sx.eat L [44] τ) (by have := HQ.out.2.2.2.1; have := Sx.M_le (Sx.le_eat HL.out.ends [44] (by decide) τ); omega))
              have hX1 := Sx.M_le (Sx.le_X HL.out.ends 0 (Sx.eat L [44] τ))
              have hX2 : (Sx.X L 0 (Sx.eat L [44] τ)).2.opn = σ.opn + 1 := by rw [Sx.op_X, Sx.op_eat]; exact HQ.out.2.2.1
              have hsu := Sx.Mn_succ HL.out.ends (x.2.2 - (kk + 1)) false hat (by have := HF.out.2.2.2.2.2.2.1; omega)
              rw [show x.2.2 - (kk + 1) + 1 = x.2.2 - kk by omega, if_neg (by decide)] at hsu
              have hMe := Sx.M_le (Sx.le_eat HL.out.ends [44] (by decide) τ)
              have HME := Lib.hid hMe
              clear hMe
              have C9 := Lib.hid (reat_fn b L HL.out τ [44] (by decide))
              have HY := Lib.hid (And.intro hsu (And.intro hX1 hX2))
              clear hsu hX1 hX2 hat
              have HS50 := Lib.hid HQ.out.2.1
              go_wp2_with (first
                | (go_at_call 65; refine (HS50.out.call1 C9.out).mono ?_; rintro e w51 ⟨J, ⟨rfl, rfl⟩, hs⟩; simp only [List.cons_append, List.nil_append] at hs; have HS51 := Lib.hid hs; clear hs HS50))
              refine wp_region_heldL (S := fun w' => w'.cell? ⟨b_x, 4, none⟩ = some (.slice q kk c)) 7 (by kernel_rfl) (HS51.out.drew.cell 2 rfl 4) (fun hHeld => ?_)
              refine tkL 0 ?_
              refine tkL 1 ?_
              refine tkL 2 ?_
              refine wpAnyL_one (i := 3) (by kernel_rfl) rfl (fun K hK => ?_)
              go_simp
              (go_at_call 185; refine (HS51.out.drew.call1 CY.out).mono ?_; rintro e w52 ⟨J, ⟨k_a, p_a, n_a, nm_a, v_a, es_a, rfl, rfl, hx_a, h1_a⟩, hs⟩; simp only [List.cons_append, List.nil_append] at hs; have HS52 := Lib.hid hs; have HX_a := Lib.hid hx_a; clear hs hx_a HS51)
              refine hK.out _ _ (HS52.out.cell 3 rfl 4) (fun hHeld => ?_)
              clear hK K
              (try simp only [Act.put, List.setIfInBounds_toArray, List.set_cons_zero, List.set_cons_succ, List.getElem_toArray, List.getElem_cons_succ, List.getElem_cons_zero])
              refine wpAnyL_one (i := 4) (by kernel_rfl) rfl (fun K hK => ?_)
              (refine wp_slice HS52.out rfl Tryz.underlying51 (exB _ _ _ _ _) ?_; intro b_a w53 hs; have HS53 := Lib.hid (show St _ _ _ (_ :: _ :: _ :: _ :: _ :: _ :: _ :: []) from hs.out); clear hs HS52)
              refine hK.out _ _ (HS53.out.cell 4 rfl 4) (fun hHeld => ?_)
              clear hK K
              (try simp only [Act.put, List.setIfInBounds_toArray, List.set_cons_zero, List.set_cons_succ, List.getElem_toArray, List.getElem_cons_succ, List.getElem_cons_zero])
              refine wpAnyL_one (i := 5) (by kernel_rfl) rfl (fun K hK => ?_)
              (refine wp_appE HS53.out 0 rfl rfl Tryz.underlying51 h1_a hnm ?_; intro q_a c_a w54 hs; have HS54 := Lib.hid (show St _ _ _ (_ :: _ :: _ :: _ :: _ :: []) from hs.out); clear hs HS53)
              refine hK.out _ _ (HS54.out.cell 2 rfl 4) (fun hHeld => ?_)
              clear hK K
              (try simp only [Act.put, List.setIfInBounds_toArray, List.set_cons_zero, List.set_cons_succ, List.getElem_toArray, List.getElem_cons_succ, List.getElem_cons_zero])
              refine tkL 6 ?_
              refine wpAnyL_last (by kernel_rfl) rfl (by kernel_rfl) (fun K hK => ?_)
              (refine wp_store1 HS54.out 2 rfl rfl exprsO (of_decide_eq_true rfl) rfl ?_; intro w55 hs; have HS55 := Lib.hid (show St _ _ _ (_ :: _ :: _ :: _ :: _ :: []) from hs.out); clear hs HS54)
              refine hK.out _ _ ?_
              clear hK K
              (try simp only [Act.put, List.setIfInBounds_toArray, List.set_cons_zero, List.set_cons_succ, List.getElem_toArray, List.getElem_cons_succ, List.getElem_cons_zero])
              go_wp2
              refine ⟨⟨kk + 1, q_a, c_a, es ++ [.mk k_a p_a n_a nm_a es_a], (Sx.X L 0 (Sx.eat L [44] τ)).2, by omega, by first | rfl | exact congrArg (Value.int .i64) hkk, Lib.hid ⟨?_, ?_, HY.out.2.2, ?_, ?_, fun h => ?_⟩⟩, ?_⟩
              · rw [List.length_append, HQ.out.1]; rfl
              · have h9 := HS55.out
                rw [HQ.out.1] at h9
                exact h9
              · have := HY.out.2.1; have := HQ.out.2.2.2.1; have := HME.out; omega
              · rw [HQ.out.2.2.2.2.1, HKD.out, HY.out.1]; rfl
              · rw [HQ.out.2.2.2.2.2 (Sx.Le.ok ((Sx.le_eat HL.out.ends [44] (by decide) τ).trans (Sx.le_X HL.out.ends 0 _)) h), HKD.out, HY.out.1, HX_a.out h, List.append_assoc]; rfl
              · first | (rw [hkk]; simp [intOf]; omega) | (simp [intOf]; omega)
          · have hge : ¬ (kk : Int) < (x.2.2 : Int) := by omega
            have hY2 : y0.2 = τ := by rw [HQ.out.2.2.2.2.1, show x.2.2 - kk = 0 by omega, Sx.Mn_zero HL.out.ends _ hat]
            have hY1 : τ.err = 0 → y0.1 = es := fun h => by rw [HQ.out.2.2.2.2.2 h, show x.2.2 - kk = 0 by omega, Sx.Mn_zero HL.out.ends _ hat, List.append_nil]
            have HS50 := Lib.hid HQ.out.2.1
            by_cases hr : s = Sx.wRor
            · have hx16 := HF.out.2.2.2.2.2.2.2 (HP.out.trans hr)
              have hW := Sx.W_ror HL.out.ends HAT.out HE.out (HT.out.trans hr)
              rw [HT.out, HF.out.2.1, show Sx.Mn L 1 true σ1 = y0 by rw [← hx16.2]; exact HF.out.2.2.1, hY2] at hW
              have C9 := Lib.hid (reat_fn b L HL.out τ [44] (by decide))
              have C10 := Lib.hid (rsome_fn b L HL.out (Sx.eat L [44] τ) 2 (by decide))
              have C11 := Lib.hid (runnest_fn b L HL.out (Sx.some L 2 (Sx.eat L [44] τ)).2 [41] (by decide) (fun h => by have := HO0.out; rw [Sx.op_some, Sx.op_eat, HQ.out.2.2.1]; omega))
              have gr : (s == [114, 111, 114]) = true := by rw [hr]; rfl
              have hF2 := tokF2
              have HW := Lib.hid (And.intro hW (And.intro hx16.1 hY1))
              clear hW hx16 hY1 hY2 hat hr
              go_wp2_with (first
                | (go_at_call 65; refine (HS50.out.call1 C9.out).mono ?_; rintro e w51 ⟨J, ⟨rfl, rfl⟩, hs⟩; simp only [List.cons_append, List.nil_append] at hs; have HS51 := Lib.hid hs; clear hs HS50)
                | (go_at_call 66; refine (HS51.out.call1 C10.out).mono ?_; rintro e w52 ⟨J, ⟨rfl, rfl⟩, hs⟩; simp only [List.cons_append, List.nil_append] at hs; have HS52 := Lib.hid hs; clear hs HS51)
                | (refine wpl_store HS52.out 2 rfl rfl intO (of_decide_eq_true rfl) rfl ?_; intro w53 hs; have HS53 := Lib.hid (show St _ _ _ (_ :: _ :: _ :: _ :: _ :: []) from hs.out); clear hs HS52)
                | (go_at_call 135; refine (HS53.out.call1 C11.out).mono ?_; rintro e w54 ⟨J, ⟨rfl, rfl⟩, hs⟩; simp only [List.cons_append, List.nil_append] at hs; have HS54 := Lib.hid hs; clear hs HS53)
                | (refine wpl_loadS HS54.out 2 rfl rfl exT rfl ?_)
                | (refine wpl_storeS HS54.out 4 rfl rfl exT rfl (fitsX rfl) ?_; intro w55 hs; have HS55 := Lib.hid (show St _ _ _ (_ :: _ :: _ :: _ :: _ :: []) from hs.out); clear hs HS54))
              refine bp_cell HS55.out 4 exT rfl rfl rfl rfl rfl ⟨_, ⟨x.2.1, (Sx.tk L σ).pos, (Sx.some L 2 (Sx.eat L [44] τ)).1.num, [], _, es, rfl, rfl, fun h => ?_, rfl⟩, ?_⟩
              · rw [HW.out.1] at h ⊢
                have h9 : τ.err = 0 := Sx.eat_ok (Sx.Le.ok (Sx.le_some HL.out.ends 2 (by decide) _) (Sx.unnest_err h))
                rw [HW.out.2.2 h9, HW.out.2.1]
              · rw [HW.out.1]; exact HS55.out.sel [0, 0] rfl
            · have hW := Sx.W_call HL.out.ends HAT.out HE.out (w := x) (by rw [HT.out]; exact HF.out.1) (by rw [HT.out]; exact hr)
              rw [HT.out, HF.out.2.1, HF.out.2.2.1, hY2] at hW
              have C11 := Lib.hid (runnest_fn b L HL.out τ [41] (by decide) (fun h => by have := HO0.out; rw [HQ.out.2.2.1]; omega))
              have gr : (s == [114, 111, 114]) = false := by have := hr; unfold Sx.wRor at this; simpa using this
              have HW := Lib.hid (And.intro hW hY1)
              clear hW hY1 hY2 hat hr
              go_wp2_with (first
                | (go_at_call 135; refine (HS50.out.call1 C11.out).mono ?_; rintro e w51 ⟨J, ⟨rfl, rfl⟩, hs⟩; simp only [List.cons_append, List.nil_append] at hs; have HS51 := Lib.hid hs; clear hs HS50)
                | (refine wpl_loadS HS51.out 2 rfl rfl exT rfl ?_)
                | (refine wpl_storeS HS51.out 4 rfl rfl exT rfl (fitsX rfl) ?_; intro w52 hs; have HS52 := Lib.hid (show St _ _ _ (_ :: _ :: _ :: _ :: _ :: []) from hs.out); clear hs HS51))
              refine bp_cell HS52.out 4 exT rfl rfl rfl rfl rfl ⟨_, ⟨x.2.1, (Sx.tk L σ).pos, 0, [], _, es, rfl, rfl, fun h => ?_, rfl⟩, ?_⟩
              · rw [HW.out.1] at h ⊢
                rw [HW.out.2 (Sx.unnest_err h)]
              · rw [HW.out.1]; exact HS52.out.sel [0, 0] rfl
      · have HP := Lib.hid hp
        have g : (x.1 == s) = false := by simpa using hp
        clear hx g1 g2 g3 hp e2
        go_wp2
        exact ⟨⟨i + 1, by omega, by go_num, Lib.hid ⟨HK.out.1, fun j y hj hy => by
          rcases Nat.lt_succ_iff_lt_or_eq.1 hj with h | h
          · exact HK.out.2 j y h hy
          · subst h
            rw [HXX.out] at hy
            cases hy
            exact HP.out⟩⟩, by simp [intOf]; omega⟩
    · have hge : ¬ (i : Int) < 5 := by omega
      have hnone := find_miss (s := s) Sx.wordsE (fun j y hj => HK.out.2 j y (by have := (List.getElem?_eq_some_iff.1 hj).1; rw [we_len] at this; omega) hj)
      have c20 : wr.cell? ⟨b_2, 0, none⟩ = some (.int .i64 (Sx.tk L σ).kind) := HK.out.1.cell 4 rfl 0
      have HS60 := Lib.hid HK.out.1
      by_cases hk2 : (Sx.tk L σ).kind = 2
      · have hW := Sx.W_num HL.out.ends HAT.out HE.out (by rw [HT.out]; exact hnone) hk2
        rw [HT.out] at hW
        have HW := Lib.hid hW
        have HIN := Lib.hid ((Sx.le_next HL.out.ends HE.out (by rw [hk2]; decide)).2.2.1 HAT.out)
        obtain ⟨a60, cap60, t60, m60, e60, p60, hr, hs3⟩ := HS60.out.rrOpen; have HR60 := Lib.hid hr; have HO60 := Lib.hid hs3; clear hs3 hr
        clear hW hnone
        go_wp2_with (first
          | (refine wpl_load HS60.out 4 rfl rfl intO rfl ?_)
          | (refine wpl_load HO60.out 0 rfl rfl intO rfl ?_)
          | (refine wpl_store HO60.out 0 rfl rfl intO (of_decide_eq_true rfl) rfl ?_; intro w61x hs; have hs9 : St _ _ _ (.row b 75 #[.slice (some a60) L.length cap60, .int .i64 (wrap64 ((t60 : Int) + 1)), .int .i64 m60, .int .i64 e60, .int .i64 p60] :: .hp (toksHp a60 L) :: _ :: _ :: _ :: _ :: _ :: []) := hs.out; rw [(rr_bound HR60.out).2.2] at hs9; have HS61x := Lib.hid hs9; clear hs hs9 HS60 HO60; have HS61 := Lib.hid (HS61x.out.rrClose (rr_step HR60.out (HIN.out))); clear HS61x)
          | (refine wpl_load HS61.out 4 rfl rfl intO rfl ?_)
          | (refine wpl_storeS HS61.out 5 rfl rfl exT rfl (fitsX rfl) ?_; intro w62 hs; have HS62 := Lib.hid (show St _ _ _ (_ :: _ :: _ :: _ :: _ :: _ :: []) from hs.out); clear hs HS61))
        refine bp_cell HS62.out 5 exT rfl rfl rfl rfl rfl ⟨_, ⟨1, (Sx.tk L σ).pos, (Sx.tk L σ).num, [], .slice none 0 0, [], rfl, rfl, fun h => by rw [HW.out], rfl⟩, ?_⟩
        rw [HW.out]; exact (HS62.out.sel [0] rfl).to fun P h => h.under fun P h => lsI_nil h
      · have hW := Sx.W_name HL.out.ends HAT.out HE.out (by rw [HT.out]; exact hnone) hk2
        rw [HT.out] at hW
        have hkb : ((Sx.tk L σ).kind == 2) = false := by simpa using hk2
        have HW := Lib.hid hW
        have C1 := Lib.hid (rsome_fn b L HL.out σ 1 (by decide))
        have CB := Lib.hid (rbehind_fn b L HL.out (Sx.some L 1 σ).2 (Sx.some L 1 σ).1 (fun ρ hρ => HX.out ρ (by have := Sx.M_some (k := 1) HE.out HAT.out; omega)))
        clear hW hnone
        go_wp2_with (first
          | (refine wpl_load HS60.out 4 rfl rfl intO rfl ?_)
          | (go_at_call 66; refine (HS60.out.call1 C1.out).mono ?_; rintro e w61 ⟨J, ⟨rfl, rfl⟩, hs⟩; simp only [List.cons_append, List.nil_append] at hs; have HS61 := Lib.hid hs; clear hs HS60)
          | (refine wpl_alloc HS61.out _ rfl tokZ ?_; intro b_n w62 HS62; clear HS61)
          | (refine wpl_storeS HS62.out 1 rfl rfl tokT rfl (fitsT _ _ _ _) ?_; intro w63 hs; have HS63 := Lib.hid (show St _ _ _ (_ :: _ :: _ :: _ :: _ :: _ :: _ :: []) from hs.out); clear hs HS62)
          | (refine wpl_loadS HS63.out 1 rfl rfl tokT rfl ?_)
          | (go_at_call 220; refine (HS63.out.call1 CB.out).mono ?_; rintro e w64 ⟨J, ⟨k_u, p_u, n_u, nm_u, v_u, es_u, rfl, rfl, hx_u, h1_u⟩, hs⟩; simp only [List.cons_append, List.nil_append] at hs; have HS64 := Lib.hid hs; clear hs HS63; have HX_u := Lib.hid hx_u; clear hx_u)
          | (refine wpl_storeS HS64.out 7 rfl rfl exT rfl (fitsX h1_u) ?_; intro w65 hs; have HS65 := Lib.hid (show St _ _ _ (_ :: _ :: _ :: _ :: _ :: _ :: _ :: _ :: []) from hs.out); clear hs HS64))
        refine bp_cell HS65.out 7 exT rfl rfl rfl rfl rfl ⟨_, ⟨k_u, p_u, n_u, nm_u, v_u, es_u, rfl, rfl, fun h => ?_, h1_u⟩, ?_⟩
        · rw [HW.out] at h ⊢; exact HX_u.out h
        · rw [HW.out]; exact HS65.out.sel [0, 0] rfl
end Go.Proofs.YtjfdcnggnldgdaaGreatDoor
end
section
namespace Go.Proofs.YtjfdcnggnldgdaaGreatDoor
open Go.ChangeShapes Go.WideShapes Go.ChangeAt Go.RowKit
set_option linter.unusedVariables false
set_option linter.unusedSimpArgs false

theorem rexprs (b : Nat) (L : List Lx.Tok) (hL : Sx.Ok L) (n : Nat) : ∀ σ, Sx.M L σ ≤ n → rCU b L σ ∧ ∀ t, rCX b L t σ := by
  induction n with
  | zero =>
    intro σ hn
    have hno : ∀ τ, ¬ Sx.M L τ + 16 ≤ Sx.M L σ := fun τ h => by omega
    have hU : rCU b L σ := fun w P hP h0 => runary_of b L hL σ (St.start hP h0).rat (fun τ h => absurd h (hno τ)) (fun τ h => absurd h (hno τ)) (fun he => rword_of b L hL σ he (fun τ h => absurd h (hno τ))) w P hP h0
    exact ⟨hU, fun t => rexpr_of b L hL σ t hU (fun τ h => absurd h (hno τ))⟩
  | succ n ih =>
    intro σ hn
    have hX : ∀ τ, Sx.M L τ + 16 ≤ Sx.M L σ → ∀ t, rCX b L t τ := fun τ h => (ih τ (by omega)).2
    have hU : rCU b L σ := fun w P hP h0 => runary_of b L hL σ (St.start hP h0).rat (fun τ h => hX τ h 0) (fun τ h => (ih τ (by omega)).1) (fun he => rword_of b L hL σ he (fun τ h => hX τ h 0)) w P hP h0
    exact ⟨hU, fun t => rexpr_of b L hL σ t hU hX⟩
/-- what the document's Expr makes, of any state -/
theorem rexpr_any (b : Nat) (L : List Lx.Tok) (hL : Sx.Ok L) (σ : Sx.R) (t : Nat) : rCX b L t σ := (rexprs b L hL _ σ (Nat.le_refl _)).2 t
end Go.Proofs.YtjfdcnggnldgdaaGreatDoor
end
