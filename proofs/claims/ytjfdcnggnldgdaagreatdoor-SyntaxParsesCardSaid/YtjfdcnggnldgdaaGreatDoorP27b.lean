/-
Chains of signs between two, and an expression.
A name with what is behind it, and a word of the language that is called.
-/
import Derived.Test.YtjfdcnggnldgdaaGreatDoorP25b
section
namespace Go.Proofs.YtjfdcnggnldgdaaGreatDoor
open Go.ChangeShapes Go.WideShapes Go.ChangeAt Go.RowKit
set_option linter.unusedVariables false
set_option linter.unusedSimpArgs false

theorem further_any (b : Nat) (L : List Lx.Tok) (hL : Sx.Ok L) (σ : Sx.R) (l : Nat) (z : Int) (hz : z = l) (hl : l ≠ 0) (x : Sx.E) (k p n : Int) (nm : List UInt8) (v : Value) (es : List Sx.E) (hv : v.oneCell' = true) (hx : σ.err = 0 → x = .mk k p n nm es)
    (hC : ∀ τ, Sx.M L τ ≤ Sx.M L σ → CC b L (IntKind.i64.wrap (z + 1)) l τ) : Fn 259 #[.pointer (some ⟨b, 0, none⟩), .int .i64 z, .agg (exA k p n nm v)] [rd b L σ, lsI v es] (FP b L l x σ) := by
  by_cases hyes : σ.err = 0 ∧ (Sx.tight (Sx.text L σ)).1 = l
  · by_cases h5 : l = 5
    · exact further_shift b L hL σ l z hz hl x k p n nm v es hv hx hyes h5
    · exact further_more b L hL σ l z hz hl x k p n nm v es hv hx hyes h5 (fun τ h => hC τ (by omega))
  · exact further_no b L hL σ l z hz hl x k p n nm v es hv hx hyes
set_option maxHeartbeats 8000000 in
set_option maxRecDepth 100000 in
theorem chain_eight (b : Nat) (L : List Lx.Tok) (hL : Sx.Ok L) (σ : Sx.R) (hU : CU b L σ) : CC b L 8 7 σ := by
  intro w P hP h0
  have HS := Lib.hid (St.start hP h0)
  have hat := HS.out.at'
  rw [Sx.X_seven hL.ends hat]
  have CX := Lib.hid hU
  clear h0 hP hL hU hat
  go_enter Tryz.func260, Tryz.ntmps260
  go_wp2_with (first
    | (refine wpl_alloc HS.out _ rfl exZ ?_; intro b1 w1 HS1; clear HS)
    | (go_at_call 279; refine (HS1.out.call1 CX.out).mono ?_; rintro e w2 ⟨J, ⟨k2, p2, n2, nm2, v2, es2, rfl, rfl, hx2, h12⟩, hs⟩; simp only [List.cons_append, List.nil_append] at hs; have HX2 := Lib.hid hx2; obtain ⟨q2, l2, cap2, rfl⟩ := hs.lsLen 1 rfl; have HS2 := Lib.hid hs; clear hs hx2)
    | (refine wpl_storeS HS2.out 2 rfl rfl exT rfl fitsX' ?_; intro w3 hs; have HS3 := Lib.hid (show St _ _ _ (_ :: _ :: _ :: []) from hs.out); clear hs HS2))
  refine bp_cell HS3.out 2 exT rfl rfl rfl rfl rfl ⟨_, ⟨k2, p2, n2, nm2, _, es2, rfl, rfl, HX2.out, rfl⟩, HS3.out.sel [0, 0] rfl⟩
def boolOf (v : Value) : Bool := match v with | .bool x => x | _ => false
/-- how many rounds a chain may still have -/
def left9 (b : Nat) (v : Value) (w : World) : Nat := if boolOf v then lenOf ((w.cell? ⟨b, 0, none⟩).getD undef) + 1 else 0
theorem left9_no (b : Nat) (w : World) : left9 b (.bool false) w = 0 := rfl
theorem St.left9 {X : Nat → Prop} {w0 w : World} {b : Nat} {L : List Lx.Tok} {σ : Sx.R} {I : List It} (h : St X w0 w (rd b L σ :: I)) : left9 b (.bool true) w = L.length - Sx.cur L σ + 1 := by
  obtain ⟨a, cap, c, m, e, p, hr, hs⟩ := h.rdOpen
  have h1 := hs.cell 0 rfl 0
  have h2 : (rdC a cap L c m e p)[0]? = some (.slice (some (a.add (c * 4))) (L.length - c) (cap - c)) := rfl
  unfold Go.Proofs.YtjfdcnggnldgdaaGreatDoor.left9
  rw [h1, h2, hr.hc]
  rfl
/-- a sign read: fewer tokens are left -/
theorem Sx.step_cur {L : List Lx.Tok} (hL : Sx.Ends L) {x : Sx.E} {σ : Sx.R} (hi : σ.at' < L.length) (he : σ.err = 0) (h : (Sx.tight (Sx.text L σ)).1 ≠ 0) : Sx.cur L σ < Sx.cur L (Sx.step L x σ).2 ∧ Sx.cur L (Sx.step L x σ).2 < L.length := by
  have h1 := Sx.step_le hL (x := x) he h
  have h2 := (Sx.step_in hL (x := x) hi he h).1
  have hk := Sx.tight_kind (L := L) (σ := σ) (n := 0) (by omega)
  have h3 : σ.at' + 1 < L.length := by
    refine hL σ.at' _ (List.getElem?_eq_getElem hi) ?_
    have : Sx.tk L σ = L[σ.at'] := by unfold Sx.tk; rw [List.getD_eq_getElem?_getD, List.getElem?_eq_getElem hi]; rfl
    rw [← this]; exact hk
  have h4 : σ.at' + 1 ≤ (Sx.step L x σ).2.at' := h1.1
  unfold Sx.cur
  rw [if_pos he]
  split <;> omega
set_option maxHeartbeats 8000000 in
set_option maxRecDepth 100000 in
theorem chain_fn (b : Nat) (L : List Lx.Tok) (hL : Sx.Ok L) (σ : Sx.R) (m : Nat) (hm2 : 2 ≤ m) (hm7 : m ≤ 7) (z : Int) (hz : z = m) (hC : ∀ τ, Sx.M L τ ≤ Sx.M L σ → CC b L ((m : Int) + 1) m τ) : CC b L z (m - 1) σ := by
  intro w P hP h0
  have HS := Lib.hid (St.start hP h0)
  have hat := HS.out.at'
  have hch := Sx.X_chain hL.ends m (by omega) hm7 hat
  have hw1 : wrap64 (z + 1) = (m : Int) + 1 := by simp only [wrap64]; omega
  have hw2 : IntKind.i64.wrap (z + 1) = (m : Int) + 1 := by rw [IntKind.wrap_i64]; omega
  have CX := Lib.hid (show CC b L (wrap64 (z + 1)) m σ by rw [hw1]; exact hC σ (Nat.le_refl _))
  have HC := Lib.hid (show ∀ τ, Sx.M L τ ≤ Sx.M L σ → CC b L (IntKind.i64.wrap (z + 1)) m τ by rw [hw2]; exact hC)
  have HL := Lib.hid hL
  have HCH := Lib.hid hch
  have HM := Lib.hid (And.intro hm2 (And.intro hm7 hz))
  have hz7 : ¬ 7 < z := by omega
  have hle := Sx.M_le (Sx.le_X hL.ends m σ)
  have HLe := Lib.hid hle
  clear h0 hP hL hC hch hm2 hm7 hz hle hat hw1 hw2
  go_enter Tryz.func260, Tryz.ntmps260
  go_wp2_with (first
    | (first | (refine wpl_alloc HS.out _ rfl exZ ?_; intro b1 w1 HS1; clear HS) | (refine wpl_alloc HS2.out _ rfl exZ ?_; intro b5 w3 HS3; clear HS2))
    | (go_at_call 260; refine (HS1.out.call1 CX.out).mono ?_; rintro e w2 ⟨J, ⟨k2, p2, n2, nm2, v2, es2, rfl, rfl, hx2, h12⟩, hs⟩; simp only [List.cons_append, List.nil_append] at hs; have HX2 := Lib.hid hx2; obtain ⟨q2, l2, cap2, rfl⟩ := hs.lsLen 1 rfl; have HS2 := Lib.hid hs; clear hs hx2)
    | (refine wpl_storeS HS3.out 1 rfl rfl exT rfl fitsX' ?_; intro w4 hs; have HS4 := Lib.hid (St.sel (show St _ _ _ (_ :: _ :: _ :: _ :: []) from hs.out) [0, 1, 0, 0] rfl); clear hs HS3))
  go_loopw [6] (fun v wr => ∃ (k p n : Int) (nm : List UInt8) (q : Option Addr) (l9 c9 : Nat) (es : List Sx.E) (x : Sx.E) (τ : Sx.R) (more : Bool), v = .bool more ∧ Hid (St P w wr [rd b L τ, lsI (.slice q l9 c9) es, .row b5 55 (exA k p n nm (.slice q l9 c9)), .row b1 55 (exA 0 0 0 [] (.slice none 0 0))] ∧ Sx.M L τ ≤ Sx.M L σ ∧ (τ.err = 0 → x = .mk k p n nm es) ∧ (if more = true then Sx.X L (m - 1) σ = Sx.Sg L (m - 1) m false x τ else Sx.X L (m - 1) σ = (x, τ)))) (fun v wr => left9 b v wr)
  case atStart =>
    exact ⟨k2, p2, n2, nm2, q2, l2, cap2, es2, (Sx.X L m σ).1, (Sx.X L m σ).2, true, rfl, Lib.hid ⟨HS4.out, HLe.out, HX2.out, by rw [if_pos rfl]; exact HCH.out⟩⟩
  case round =>
    obtain ⟨k, p, n, nm, q, l9, c9, es, x, τ, more, rfl, HK⟩ := hrel
    cases more
    · have HST := Lib.hid HK.out.1
      have HF := Lib.hid HK.out.2.2
      clear HK HC HCH HLe CX HS4 HX2
      go_wp2_with (first
        | (refine wpl_loadS HST.out 2 rfl rfl exT rfl ?_)
        | (refine wpl_storeS HST.out 3 rfl rfl exT rfl fitsX' ?_; intro w9 hs; have HS9 := Lib.hid (show St _ _ _ (_ :: _ :: _ :: _ :: []) from hs.out); clear hs HST))
      have hf := HF.out.2
      rw [if_neg (by decide)] at hf
      refine bp_cell HS9.out 3 exT rfl rfl rfl rfl rfl ⟨_, ⟨k, p, n, nm, _, es, rfl, rfl, ?_, rfl⟩, ?_⟩
      · rw [hf]; exact HF.out.1
      · rw [hf]; exact HS9.out.sel [0, 0] rfl
    · have HST := Lib.hid HK.out.1
      have HF := Lib.hid HK.out.2
      have hat := HST.out.at'
      have CF := Lib.hid (further_any b L HL.out τ m z HM.out.2.2 (by have := HM.out.1; omega) x k p n nm (.slice q l9 c9) es rfl HF.out.2.1 (fun ρ h => HC.out ρ (Nat.le_trans h HF.out.1)))
      have HAT := Lib.hid hat
      have HL9 := Lib.hid (HST.out.left9)
      clear HK HC HCH HLe CX HS4 HX2 hat
      go_wp2_with (first
        | (refine wpl_loadS HST.out 2 rfl rfl exT rfl ?_)
        | (go_at_call 259; refine (St.call (pre := [rd b L τ, lsI (.slice q l9 c9) es]) HST.out CF.out).mono ?_; rintro e w6 ⟨J, ⟨k3, p3, n3, nm3, v3, es3, r3, bb, rfl, rfl, hx3, h13, hbb, hr3⟩, hs⟩; simp only [List.cons_append, List.nil_append] at hs; have HX3 := Lib.hid hx3; have HB := Lib.hid (And.intro hbb hr3); obtain ⟨q3, l3, cap3, rfl⟩ := hs.lsLen 1 rfl; have HS6 := Lib.hid hs; clear hs hx3 hbb hr3)
        | (refine wpl_storeS HS6.out 2 rfl rfl exT rfl fitsX' ?_; intro w7 hs; have HS7 := Lib.hid (show St _ _ _ (_ :: _ :: _ :: _ :: []) from hs.out); clear hs HS6))
      have hF := HF.out.2.2
      first | rw [if_pos rfl] at hF | rw [if_pos trivial] at hF
      obtain ⟨hbb, hr3⟩ := HB.out
      have hm := HM.out
      by_cases hit : τ.err = 0 ∧ (Sx.tight (Sx.text L τ)).1 = m
      · rw [if_pos hit] at hr3
        rw [decide_eq_true hit] at hbb
        subst hbb hr3
        have hne : (Sx.tight (Sx.text L τ)).1 ≠ 0 := by rw [hit.2]; omega
        have hin := Sx.step_in HL.out.ends (x := x) HAT.out hit.1 hne
        refine ⟨⟨k3, p3, n3, nm3, q3, l3, cap3, es3, (Sx.step L x τ).1, (Sx.step L x τ).2, true, rfl, Lib.hid ⟨HS7.out, Nat.le_trans (by omega) HF.out.1, HX3.out, ?_⟩⟩, ?_⟩
        · rw [if_pos rfl, hF, Sx.Sg_go HL.out.ends x HAT.out hit.1 (by rw [hit.2]; simp; omega), hit.2]
          rw [decide_eq_false (show ¬ m = 1 by omega)]; rfl
        · have hc := Sx.step_cur HL.out.ends (x := x) HAT.out hit.1 hne
          rw [HL9.out, HS7.out.left9]; omega
      · rw [if_neg hit] at hr3
        rw [decide_eq_false hit] at hbb
        subst hbb hr3
        refine ⟨⟨k3, p3, n3, nm3, q3, l3, cap3, es3, x, τ, false, rfl, Lib.hid ⟨HS7.out, HF.out.1, HX3.out, ?_⟩⟩, ?_⟩
        · rw [if_neg (by decide), hF]
          by_cases he : τ.err = 0
          · exact Sx.Sg_stop HL.out.ends x HAT.out (by have : ¬ (Sx.tight (Sx.text L τ)).1 = m := fun h => hit ⟨he, h⟩; omega)
          · exact Sx.Sg_err HL.out.ends _ _ _ _ HAT.out he
        · rw [HL9.out, left9_no]; omega
set_option maxHeartbeats 8000000 in
set_option maxRecDepth 100000 in
theorem expr_fn (b : Nat) (L : List Lx.Tok) (hL : Sx.Ok L) (σ : Sx.R) (hC : ∀ τ, Sx.M L τ ≤ Sx.M L σ → CC b L 2 1 τ) : CE b L σ := by
  intro w P hP h0
  have HS := Lib.hid (St.start hP h0)
  have hat := HS.out.at'
  rw [Sx.X_zero hL.ends hat]
  generalize hr0 : (if (Sx.X L 1 σ).2.err = 0 ∧ (Sx.tight (Sx.text L (Sx.X L 1 σ).2)).1 = 1 then Sx.step L (Sx.X L 1 σ).1 (Sx.X L 1 σ).2 else Sx.X L 1 σ) = R0
  have HR0 := Lib.hid hr0
  have CX := Lib.hid (hC σ (Nat.le_refl _))
  have hle := Sx.M_le (Sx.le_X hL.ends 1 σ)
  have hC2 : ∀ τ, Sx.M L τ ≤ Sx.M L (Sx.X L 1 σ).2 → CC b L (IntKind.i64.wrap (1 + 1)) 1 τ := fun τ h => by rw [show IntKind.i64.wrap (1 + 1) = 2 from by rw [IntKind.wrap_i64]; omega]; exact hC τ (Nat.le_trans h hle)
  have CF := Lib.hid (fun k p n nm v es hv hx => further_any b L hL (Sx.X L 1 σ).2 1 1 rfl (by decide) (Sx.X L 1 σ).1 k p n nm v es hv hx hC2)
  clear h0 hP hL hC hC2 hle hat hr0
  go_enter Tryz.func243, Tryz.ntmps243
  go_wp2_with (first
    | (first | (refine wpl_alloc HS.out _ rfl exZ ?_; intro b1 w1 HS1; clear HS) | (refine wpl_alloc HS6.out _ rfl exZ ?_; intro b5 w7 HS7; clear HS6))
    | (go_at_call 260; refine (HS1.out.call1 CX.out).mono ?_; rintro e w2 ⟨J, ⟨k2, p2, n2, nm2, v2, es2, rfl, rfl, hx2, h12⟩, hs⟩; simp only [List.cons_append, List.nil_append] at hs; have HX2 := Lib.hid hx2; obtain ⟨q2, l2, cap2, rfl⟩ := hs.lsLen 1 rfl; have HS2 := Lib.hid hs; clear hs hx2)
    | (go_at_call 259; refine (St.call (pre := [rd b L (Sx.X L 1 σ).2, lsI (.slice q2 l2 cap2) es2]) HS2.out (CF.out _ _ _ _ _ _ rfl HX2.out)).mono ?_; rintro e w6 ⟨J, ⟨k3, p3, n3, nm3, v3, es3, r3, bb, rfl, rfl, hx3, h13, hbb, hr3⟩, hs⟩; simp only [List.cons_append, List.nil_append] at hs; have HX3 := Lib.hid hx3; have HB := Lib.hid hr3; obtain ⟨q3, l3, cap3, rfl⟩ := hs.lsLen 1 rfl; have HS6 := Lib.hid hs; clear hs hx3 hbb hr3)
    | (first | (refine wpl_storeS HS7.out 1 rfl rfl exT rfl fitsX' ?_; intro w8 hs; have HS8 := Lib.hid (show St _ _ _ (_ :: _ :: _ :: _ :: []) from hs.out); clear hs HS7) | (refine wpl_storeS HS8.out 3 rfl rfl exT rfl fitsX' ?_; intro w9 hs; have HS9 := Lib.hid (show St _ _ _ (_ :: _ :: _ :: _ :: []) from hs.out); clear hs HS8))
    | (refine wpl_loadS HS8.out 1 rfl rfl exT rfl ?_))
  have hb : r3 = R0 := HB.out.trans HR0.out
  subst hb
  exact bp_cell HS9.out 3 exT rfl rfl rfl rfl rfl ⟨_, ⟨k3, p3, n3, nm3, _, es3, rfl, rfl, HX3.out, rfl⟩, HS9.out.sel [0, 1] rfl⟩
end Go.Proofs.YtjfdcnggnldgdaaGreatDoor
end
section
namespace Go.Proofs.YtjfdcnggnldgdaaGreatDoor
open Go.ChangeShapes Go.WideShapes Go.ChangeAt Go.RowKit
set_option linter.unusedVariables false
set_option linter.unusedSimpArgs false

set_option maxHeartbeats 8000000 in
set_option maxRecDepth 100000 in
theorem known_fn (b : Nat) (L : List Lx.Tok) (hL : Sx.Ok L) (σ : Sx.R) (hE : ∀ τ, Sx.M L τ ≤ Sx.M L (Sx.some L 1 σ).2 → CE b L τ) : Fn 290 #[.pointer (some ⟨b, 0, none⟩)] [rd b L σ]
    (EP b L (Sx.Bh L (Sx.some L 1 σ).1 (Sx.some L 1 σ).2)) := by
  intro w P hP h0
  have HS := Lib.hid (St.start hP h0)
  have hat := (Sx.le_some hL.ends 1 (by decide) σ).2.2.1 HS.out.at'
  have C1 := Lib.hid (take_fn b L hL σ 1 (by decide))
  generalize Sx.some L 1 σ = sm at hE C1 hat ⊢
  obtain ⟨t, τ⟩ := sm
  simp only [] at hE C1 hat ⊢
  have C2 := Lib.hid (is_fn b L hL τ [40] (by decide))
  cases h1 : Sx.sees L [40] τ
  · have C3 := Lib.hid (is_fn b L hL τ [91] (by decide))
    rw [h1] at C2
    cases h2 : Sx.sees L [91] τ
    · rw [h2] at C3
      rw [Sx.Bh_bare hL.ends t hat h1 h2]
      clear h0 hP hL hE hat h1 h2
      go_enter Tryz.func290, Tryz.ntmps290
      go_wp2_with (first
        | (first | (refine wpl_alloc HS.out _ rfl exZ ?_; intro b1 w1 HS1; clear HS) | (refine wpl_alloc HS2.out _ rfl tokZ ?_; intro b3 w3 HS3; clear HS2) | (refine wpl_alloc HS4.out _ rfl exZ ?_; intro b5 w5 HS5; clear HS4))
        | (go_at_call 118; refine (HS1.out.call1 C1.out).mono ?_; rintro e w2 ⟨J, ⟨rfl, rfl⟩, hs⟩; simp only [List.cons_append, List.nil_append] at hs; have HS2 := Lib.hid hs; clear hs; clear HS1)
        | (first | (refine wpl_storeS HS3.out 1 rfl rfl tokT rfl (fitsT _ _ _ _) ?_; intro w4 hs; have HS4 := Lib.hid (show St _ _ _ (_ :: _ :: _ :: []) from hs.out); clear hs HS3) | (refine wpl_storeS HS5.out 1 rfl rfl exT rfl fitsX' ?_; intro w6 hs; have HS6 := Lib.hid (show St _ _ _ (_ :: _ :: _ :: _ :: []) from hs.out); clear hs HS5))
        | (first | (refine wpl_load HS4.out 1 rfl rfl intO rfl ?_) | (refine wpl_load HS4.out 1 rfl rfl strO rfl ?_))
        | (go_at_call 180; first | (refine (HS6.out.call1 C2.out).mono ?_; rintro e w7 ⟨J, ⟨rfl, rfl⟩, hs⟩; simp only [List.cons_append, List.nil_append] at hs; have HS7 := Lib.hid hs; clear hs HS6) | (refine (HS7.out.call1 C3.out).mono ?_; rintro e w8 ⟨J, ⟨rfl, rfl⟩, hs⟩; simp only [List.cons_append, List.nil_append] at hs; have HS8 := Lib.hid hs; clear hs HS7))
        | (refine wpl_loadS HS8.out 1 rfl rfl exT rfl ?_)
        | (refine wpl_storeS HS8.out 3 rfl rfl exT rfl fitsX' ?_; intro w9 hs; have HS9 := Lib.hid (show St _ _ _ (_ :: _ :: _ :: _ :: []) from hs.out); clear hs HS8))
      refine bp_cell HS9.out 3 exT rfl rfl rfl rfl rfl ⟨_, ⟨2, t.pos, 0, t.text, _, [], rfl, rfl, fun _ => rfl, rfl⟩, (St.sel HS9.out [0] rfl).to fun P h => h.under fun P h => lsI_nil h⟩
    · rw [h2] at C3
      rw [Sx.Bh_index hL.ends t hat h2]
      have CX := Lib.hid (index_fn b L hL τ (hE _ (Sx.M_le (Sx.le_nest hL.ends [91] (by decide) τ))))
      clear h0 hP hL hE hat h1 h2
      go_enter Tryz.func290, Tryz.ntmps290
      go_wp2_with (first
        | (first | (refine wpl_alloc HS.out _ rfl exZ ?_; intro b1 w1 HS1; clear HS) | (refine wpl_alloc HS2.out _ rfl tokZ ?_; intro b3 w3 HS3; clear HS2) | (refine wpl_alloc HS4.out _ rfl exZ ?_; intro b5 w5 HS5; clear HS4))
        | (go_at_call 118; refine (HS1.out.call1 C1.out).mono ?_; rintro e w2 ⟨J, ⟨rfl, rfl⟩, hs⟩; simp only [List.cons_append, List.nil_append] at hs; have HS2 := Lib.hid hs; clear hs; clear HS1)
        | (first | (refine wpl_storeS HS3.out 1 rfl rfl tokT rfl (fitsT _ _ _ _) ?_; intro w4 hs; have HS4 := Lib.hid (show St _ _ _ (_ :: _ :: _ :: []) from hs.out); clear hs HS3) | (refine wpl_storeS HS5.out 1 rfl rfl exT rfl fitsX' ?_; intro w6 hs; have HS6 := Lib.hid (show St _ _ _ (_ :: _ :: _ :: _ :: []) from hs.out); clear hs HS5))
        | (first | (refine wpl_load HS4.out 1 rfl rfl intO rfl ?_) | (refine wpl_load HS4.out 1 rfl rfl strO rfl ?_))
        | (go_at_call 180; first | (refine (HS6.out.call1 C2.out).mono ?_; rintro e w7 ⟨J, ⟨rfl, rfl⟩, hs⟩; simp only [List.cons_append, List.nil_append] at hs; have HS7 := Lib.hid hs; clear hs HS6) | (refine (HS7.out.call1 C3.out).mono ?_; rintro e w8 ⟨J, ⟨rfl, rfl⟩, hs⟩; simp only [List.cons_append, List.nil_append] at hs; have HS8 := Lib.hid hs; clear hs HS7))
        | (first | (refine wpl_store HS8.out 1 rfl rfl intO (of_decide_eq_true rfl) rfl ?_; intro w9 hs; have HS9 := Lib.hid (show St _ _ _ (_ :: _ :: _ :: _ :: []) from hs.out); clear hs HS8) | (refine wpl_store HS11.out 3 rfl rfl exprsO (of_decide_eq_true rfl) rfl ?_; intro w12 hs; have HS12 := Lib.hid (show St _ _ _ (_ :: _ :: _ :: _ :: _ :: _ :: []) from hs.out); clear hs HS11))
        | (go_at_call 245; refine (HS9.out.call1 CX.out).mono ?_; rintro e w10 ⟨J, ⟨k2, p2, n2, nm2, v2, es2, rfl, rfl, hx2, h12⟩, hs⟩; simp only [List.cons_append, List.nil_append] at hs; have HX2 := Lib.hid hx2; obtain ⟨q2, l2, cap2, rfl⟩ := hs.lsLen 1 rfl; have HS10 := Lib.hid hs; clear hs hx2; clear HS9)
        | (refine wpl_slice HS10.out rfl Tryz.underlying51 (exB _ _ _ _ _) ?_; intro b11 w11 HS11; clear HS10)
        | (refine wpl_loadS HS12.out 3 rfl rfl exT rfl ?_)
        | (refine wpl_storeS HS12.out 5 rfl rfl exT rfl fitsX' ?_; intro w13 hs; have HS13 := Lib.hid (show St _ _ _ (_ :: _ :: _ :: _ :: _ :: _ :: []) from hs.out); clear hs HS12))
      refine bp_cell HS13.out 5 exT rfl rfl rfl rfl rfl ⟨_, ⟨3, t.pos, 0, t.text, _, [.mk k2 p2 n2 nm2 es2], rfl, rfl, fun h => ?_, rfl⟩, (St.sel HS13.out [0, 0, 0] rfl).to fun P h => h.under fun P h => lsI_one h⟩
      exact congrArg (fun z => Sx.E.mk 3 t.pos 0 t.text [z]) (HX2.out h)
  · rw [h1] at C2
    rw [Sx.Bh_call hL.ends t hat h1]
    have CX := Lib.hid (call_fn b L hL τ hE t.kind t.pos t.num t.text)
    clear h0 hP hL hE hat h1
    go_enter Tryz.func290, Tryz.ntmps290
    go_wp2_with (first
      | (first | (refine wpl_alloc HS.out _ rfl exZ ?_; intro b1 w1 HS1; clear HS) | (refine wpl_alloc HS2.out _ rfl tokZ ?_; intro b3 w3 HS3; clear HS2) | (refine wpl_alloc HS4.out _ rfl exZ ?_; intro b5 w5 HS5; clear HS4))
      | (go_at_call 118; refine (HS1.out.call1 C1.out).mono ?_; rintro e w2 ⟨J, ⟨rfl, rfl⟩, hs⟩; simp only [List.cons_append, List.nil_append] at hs; have HS2 := Lib.hid hs; clear hs; clear HS1)
      | (first | (refine wpl_storeS HS3.out 1 rfl rfl tokT rfl (fitsT _ _ _ _) ?_; intro w4 hs; have HS4 := Lib.hid (show St _ _ _ (_ :: _ :: _ :: []) from hs.out); clear hs HS3) | (refine wpl_storeS HS5.out 1 rfl rfl exT rfl fitsX' ?_; intro w6 hs; have HS6 := Lib.hid (show St _ _ _ (_ :: _ :: _ :: _ :: []) from hs.out); clear hs HS5))
      | (first | (refine wpl_load HS4.out 1 rfl rfl intO rfl ?_) | (refine wpl_load HS4.out 1 rfl rfl strO rfl ?_))
      | (go_at_call 180; first | (refine (HS6.out.call1 C2.out).mono ?_; rintro e w7 ⟨J, ⟨rfl, rfl⟩, hs⟩; simp only [List.cons_append, List.nil_append] at hs; have HS7 := Lib.hid hs; clear hs HS6) | (refine (HS7.out.call1 C3.out).mono ?_; rintro e w8 ⟨J, ⟨rfl, rfl⟩, hs⟩; simp only [List.cons_append, List.nil_append] at hs; have HS8 := Lib.hid hs; clear hs HS7))
      | (refine wpl_loadS HS7.out 2 rfl rfl tokT rfl ?_)
      | (go_at_call 244; refine (HS7.out.call1 CX.out).mono ?_; rintro e w8 ⟨J, ⟨k2, p2, n2, nm2, v2, es2, rfl, rfl, hx2, h12⟩, hs⟩; simp only [List.cons_append, List.nil_append] at hs; have HX2 := Lib.hid hx2; obtain ⟨q2, l2, cap2, rfl⟩ := hs.lsLen 1 rfl; have HS8 := Lib.hid hs; clear hs hx2; clear HS7)
      | (refine wpl_storeS HS8.out 4 rfl rfl exT rfl fitsX' ?_; intro w9 hs; have HS9 := Lib.hid (show St _ _ _ (_ :: _ :: _ :: _ :: _ :: []) from hs.out); clear hs HS8))
    refine bp_cell HS9.out 4 exT rfl rfl rfl rfl rfl ⟨_, ⟨k2, p2, n2, nm2, _, es2, rfl, rfl, HX2.out, rfl⟩, HS9.out.sel [0, 0] rfl⟩
set_option maxHeartbeats 8000000 in
set_option maxRecDepth 100000 in
theorem called_mulhi (b : Nat) (L : List Lx.Tok) (hL : Sx.Ok L) (σ : Sx.R) (hE : ∀ τ, Sx.M L τ + 16 ≤ Sx.M L σ → CE b L τ) (hse : Sx.sees L Sx.wMulhi σ = true) : Fn 291 #[.pointer (some ⟨b, 0, none⟩)] [rd b L σ]
    (EP b L (Sx.W L (Sx.text L σ) σ)) := by
  intro w P hP h0
  have HS := Lib.hid (St.start hP h0)
  have hat := HS.out.at'
  obtain ⟨he, htx⟩ := Sx.sees_text hse
  have C1 := Lib.hid (next_fn b L σ)
  rw [Sx.pk_tk he] at C1
  have M0 := Lib.hid (may_fn b L hL σ Sx.wMulhi (by decide))
  rw [Sx.may_is hse] at M0
  have CL := Lib.hid (list_many b L hL { σ with at' := σ.at' + 1 } 2 (by decide) (fun τ h => hE τ (by have := Sx.M_next he hat; omega)))
  have hW := Sx.W_call hL.ends hat he (w := (Sx.wMulhi, 23, 2)) (by rw [htx]; decide) (by rw [htx]; decide)
  rw [hW]
  have hF1 := tokF1
  have hmf : ∀ (fn : Go.Fn) (first cap : Array Value) (w : World), (Instr.makeFunc fn first cap).run Tryz.prog w = .ok (.func fn first cap) w := fun _ _ _ _ => rfl
  clear h0 hP hL hE hse hat he htx hW
  go_enter Tryz.func291, Tryz.ntmps291
  go_wp2_with (first
    | (refine wpl_box HS.out rfl rfl ?_; intro br w1 HS1; clear HS)
    | (first | (refine wpl_alloc HS1.out _ rfl exZ ?_; intro b2 w2 HS2; clear HS1) | (refine wpl_alloc HS3.out _ rfl exZ ?_; intro bx w4 HS4; clear HS3))
    | (first | (refine wpl_load HS2.out 2 rfl rfl ptrO rfl ?_) | (refine wpl_load HS5.out 3 rfl rfl ptrO rfl ?_) | (refine wpl_load HS6.out 3 rfl rfl ptrO rfl ?_) | (refine wpl_load HS7.out 3 rfl rfl ptrO rfl ?_) | (refine wpl_load HS8.out 3 rfl rfl ptrO rfl ?_) | (refine wpl_load HS9.out 3 rfl rfl ptrO rfl ?_) | (refine wpl_load HS10.out 3 rfl rfl ptrO rfl ?_))
    | (go_at_call 61; refine (HS2.out.call1 C1.out).mono ?_; rintro e w3 ⟨J, ⟨rfl, rfl⟩, hs⟩; simp only [List.cons_append, List.nil_append] at hs; have HS3 := Lib.hid hs; clear hs HS2)
    | (refine wpl_storeS HS4.out 1 rfl rfl exT rfl fitsX' ?_; intro w5 hs; have HS5 := Lib.hid (show St _ _ _ (_ :: _ :: _ :: _ :: []) from hs.out); clear hs HS4)
    | (go_at_call 121; first | (refine (HS5.out.call1 M0.out).mono ?_; rintro e w6 ⟨J, ⟨rfl, rfl⟩, hs⟩; simp only [List.cons_append, List.nil_append] at hs; have HS6 := Lib.hid hs; clear hs HS5))
    | (go_at_call 261; refine (HS6.out.call1 CL.out).mono ?_; rintro e w20 ⟨J, ⟨v2, es2, rfl, rfl, hx2, h12⟩, hs⟩; simp only [List.cons_append, List.nil_append] at hs; have HX2 := Lib.hid hx2; obtain ⟨q2, l2, cap2, rfl⟩ := hs.lsLen 1 rfl; have HS20 := Lib.hid hs; clear hs hx2)
    | (refine wpl_store HS20.out 2 rfl rfl intO (of_decide_eq_true rfl) rfl ?_; intro w21 hs; have HS21 := Lib.hid (show St _ _ _ (_ :: _ :: _ :: _ :: _ :: []) from hs.out); clear hs HS20)
    | (refine wpl_store HS21.out 2 rfl rfl exprsO (of_decide_eq_true rfl) rfl ?_; intro w22 hs; have HS22 := Lib.hid (show St _ _ _ (_ :: _ :: _ :: _ :: _ :: []) from hs.out); clear hs HS21)
    | (refine wpl_loadS HS22.out 2 rfl rfl exT rfl ?_)
    | (refine wpl_storeS HS22.out 3 rfl rfl exT rfl fitsX' ?_; intro w23 hs; have HS23 := Lib.hid (show St _ _ _ (_ :: _ :: _ :: _ :: _ :: []) from hs.out); clear hs HS22))
  refine bp_cell HS23.out 3 exT rfl rfl rfl rfl rfl ⟨_, ⟨23, _, 0, [], _, es2, rfl, rfl, fun h => ?_, rfl⟩, HS23.out.sel [0, 0] rfl⟩
  exact congrArg (fun z => Sx.E.mk 23 (Sx.tk L σ).pos 0 [] z) (HX2.out h)
set_option maxHeartbeats 8000000 in
set_option maxRecDepth 100000 in
theorem called_carry (b : Nat) (L : List Lx.Tok) (hL : Sx.Ok L) (σ : Sx.R) (hE : ∀ τ, Sx.M L τ + 16 ≤ Sx.M L σ → CE b L τ) (hse : Sx.sees L Sx.wCarry σ = true) : Fn 291 #[.pointer (some ⟨b, 0, none⟩)] [rd b L σ]
    (EP b L (Sx.W L (Sx.text L σ) σ)) := by
  intro w P hP h0
  have HS := Lib.hid (St.start hP h0)
  have hat := HS.out.at'
  obtain ⟨he, htx⟩ := Sx.sees_text hse
  have C1 := Lib.hid (next_fn b L σ)
  rw [Sx.pk_tk he] at C1
  have M0 := Lib.hid (may_fn b L hL σ Sx.wMulhi (by decide))
  rw [Sx.may_no (show Sx.sees L Sx.wMulhi σ = false from Sx.sees_two hse (by decide))] at M0
  have M1 := Lib.hid (may_fn b L hL σ Sx.wCarry (by decide))
  rw [Sx.may_is hse] at M1
  have CL := Lib.hid (list_many b L hL { σ with at' := σ.at' + 1 } 2 (by decide) (fun τ h => hE τ (by have := Sx.M_next he hat; omega)))
  have hW := Sx.W_call hL.ends hat he (w := (Sx.wCarry, 24, 2)) (by rw [htx]; decide) (by rw [htx]; decide)
  rw [hW]
  have hF1 := tokF1
  have hmf : ∀ (fn : Go.Fn) (first cap : Array Value) (w : World), (Instr.makeFunc fn first cap).run Tryz.prog w = .ok (.func fn first cap) w := fun _ _ _ _ => rfl
  clear h0 hP hL hE hse hat he htx hW
  go_enter Tryz.func291, Tryz.ntmps291
  go_wp2_with (first
    | (refine wpl_box HS.out rfl rfl ?_; intro br w1 HS1; clear HS)
    | (first | (refine wpl_alloc HS1.out _ rfl exZ ?_; intro b2 w2 HS2; clear HS1) | (refine wpl_alloc HS3.out _ rfl exZ ?_; intro bx w4 HS4; clear HS3))
    | (first | (refine wpl_load HS2.out 2 rfl rfl ptrO rfl ?_) | (refine wpl_load HS5.out 3 rfl rfl ptrO rfl ?_) | (refine wpl_load HS6.out 3 rfl rfl ptrO rfl ?_) | (refine wpl_load HS7.out 3 rfl rfl ptrO rfl ?_) | (refine wpl_load HS8.out 3 rfl rfl ptrO rfl ?_) | (refine wpl_load HS9.out 3 rfl rfl ptrO rfl ?_) | (refine wpl_load HS10.out 3 rfl rfl ptrO rfl ?_))
    | (go_at_call 61; refine (HS2.out.call1 C1.out).mono ?_; rintro e w3 ⟨J, ⟨rfl, rfl⟩, hs⟩; simp only [List.cons_append, List.nil_append] at hs; have HS3 := Lib.hid hs; clear hs HS2)
    | (refine wpl_storeS HS4.out 1 rfl rfl exT rfl fitsX' ?_; intro w5 hs; have HS5 := Lib.hid (show St _ _ _ (_ :: _ :: _ :: _ :: []) from hs.out); clear hs HS4)
    | (go_at_call 121; first | (refine (HS5.out.call1 M0.out).mono ?_; rintro e w6 ⟨J, ⟨rfl, rfl⟩, hs⟩; simp only [List.cons_append, List.nil_append] at hs; have HS6 := Lib.hid hs; clear hs HS5) | (refine (HS6.out.call1 M1.out).mono ?_; rintro e w7 ⟨J, ⟨rfl, rfl⟩, hs⟩; simp only [List.cons_append, List.nil_append] at hs; have HS7 := Lib.hid hs; clear hs HS6))
    | (go_at_call 261; refine (HS7.out.call1 CL.out).mono ?_; rintro e w20 ⟨J, ⟨v2, es2, rfl, rfl, hx2, h12⟩, hs⟩; simp only [List.cons_append, List.nil_append] at hs; have HX2 := Lib.hid hx2; obtain ⟨q2, l2, cap2, rfl⟩ := hs.lsLen 1 rfl; have HS20 := Lib.hid hs; clear hs hx2)
    | (refine wpl_store HS20.out 2 rfl rfl intO (of_decide_eq_true rfl) rfl ?_; intro w21 hs; have HS21 := Lib.hid (show St _ _ _ (_ :: _ :: _ :: _ :: _ :: []) from hs.out); clear hs HS20)
    | (refine wpl_store HS21.out 2 rfl rfl exprsO (of_decide_eq_true rfl) rfl ?_; intro w22 hs; have HS22 := Lib.hid (show St _ _ _ (_ :: _ :: _ :: _ :: _ :: []) from hs.out); clear hs HS21)
    | (refine wpl_loadS HS22.out 2 rfl rfl exT rfl ?_)
    | (refine wpl_storeS HS22.out 3 rfl rfl exT rfl fitsX' ?_; intro w23 hs; have HS23 := Lib.hid (show St _ _ _ (_ :: _ :: _ :: _ :: _ :: []) from hs.out); clear hs HS22))
  refine bp_cell HS23.out 3 exT rfl rfl rfl rfl rfl ⟨_, ⟨24, _, 0, [], _, es2, rfl, rfl, fun h => ?_, rfl⟩, HS23.out.sel [0, 0] rfl⟩
  exact congrArg (fun z => Sx.E.mk 24 (Sx.tk L σ).pos 0 [] z) (HX2.out h)
set_option maxHeartbeats 8000000 in
set_option maxRecDepth 100000 in
theorem called_select (b : Nat) (L : List Lx.Tok) (hL : Sx.Ok L) (σ : Sx.R) (hE : ∀ τ, Sx.M L τ + 16 ≤ Sx.M L σ → CE b L τ) (hse : Sx.sees L Sx.wSelect σ = true) : Fn 291 #[.pointer (some ⟨b, 0, none⟩)] [rd b L σ]
    (EP b L (Sx.W L (Sx.text L σ) σ)) := by
  intro w P hP h0
  have HS := Lib.hid (St.start hP h0)
  have hat := HS.out.at'
  obtain ⟨he, htx⟩ := Sx.sees_text hse
  have C1 := Lib.hid (next_fn b L σ)
  rw [Sx.pk_tk he] at C1
  have M0 := Lib.hid (may_fn b L hL σ Sx.wMulhi (by decide))
  rw [Sx.may_no (show Sx.sees L Sx.wMulhi σ = false from Sx.sees_two hse (by decide))] at M0
  have M1 := Lib.hid (may_fn b L hL σ Sx.wCarry (by decide))
  rw [Sx.may_no (show Sx.sees L Sx.wCarry σ = false from Sx.sees_two hse (by decide))] at M1
  have M2 := Lib.hid (may_fn b L hL σ Sx.wSelect (by decide))
  rw [Sx.may_is hse] at M2
  have CL := Lib.hid (list_many b L hL { σ with at' := σ.at' + 1 } 3 (by decide) (fun τ h => hE τ (by have := Sx.M_next he hat; omega)))
  have hW := Sx.W_call hL.ends hat he (w := (Sx.wSelect, 25, 3)) (by rw [htx]; decide) (by rw [htx]; decide)
  rw [hW]
  have hF1 := tokF1
  have hmf : ∀ (fn : Go.Fn) (first cap : Array Value) (w : World), (Instr.makeFunc fn first cap).run Tryz.prog w = .ok (.func fn first cap) w := fun _ _ _ _ => rfl
  clear h0 hP hL hE hse hat he htx hW
  go_enter Tryz.func291, Tryz.ntmps291
  go_wp2_with (first
    | (refine wpl_box HS.out rfl rfl ?_; intro br w1 HS1; clear HS)
    | (first | (refine wpl_alloc HS1.out _ rfl exZ ?_; intro b2 w2 HS2; clear HS1) | (refine wpl_alloc HS3.out _ rfl exZ ?_; intro bx w4 HS4; clear HS3))
    | (first | (refine wpl_load HS2.out 2 rfl rfl ptrO rfl ?_) | (refine wpl_load HS5.out 3 rfl rfl ptrO rfl ?_) | (refine wpl_load HS6.out 3 rfl rfl ptrO rfl ?_) | (refine wpl_load HS7.out 3 rfl rfl ptrO rfl ?_) | (refine wpl_load HS8.out 3 rfl rfl ptrO rfl ?_) | (refine wpl_load HS9.out 3 rfl rfl ptrO rfl ?_) | (refine wpl_load HS10.out 3 rfl rfl ptrO rfl ?_))
    | (go_at_call 61; refine (HS2.out.call1 C1.out).mono ?_; rintro e w3 ⟨J, ⟨rfl, rfl⟩, hs⟩; simp only [List.cons_append, List.nil_append] at hs; have HS3 := Lib.hid hs; clear hs HS2)
    | (refine wpl_storeS HS4.out 1 rfl rfl exT rfl fitsX' ?_; intro w5 hs; have HS5 := Lib.hid (show St _ _ _ (_ :: _ :: _ :: _ :: []) from hs.out); clear hs HS4)
    | (go_at_call 121; first | (refine (HS5.out.call1 M0.out).mono ?_; rintro e w6 ⟨J, ⟨rfl, rfl⟩, hs⟩; simp only [List.cons_append, List.nil_append] at hs; have HS6 := Lib.hid hs; clear hs HS5) | (refine (HS6.out.call1 M1.out).mono ?_; rintro e w7 ⟨J, ⟨rfl, rfl⟩, hs⟩; simp only [List.cons_append, List.nil_append] at hs; have HS7 := Lib.hid hs; clear hs HS6) | (refine (HS7.out.call1 M2.out).mono ?_; rintro e w8 ⟨J, ⟨rfl, rfl⟩, hs⟩; simp only [List.cons_append, List.nil_append] at hs; have HS8 := Lib.hid hs; clear hs HS7))
    | (go_at_call 261; refine (HS8.out.call1 CL.out).mono ?_; rintro e w20 ⟨J, ⟨v2, es2, rfl, rfl, hx2, h12⟩, hs⟩; simp only [List.cons_append, List.nil_append] at hs; have HX2 := Lib.hid hx2; obtain ⟨q2, l2, cap2, rfl⟩ := hs.lsLen 1 rfl; have HS20 := Lib.hid hs; clear hs hx2)
    | (refine wpl_store HS20.out 2 rfl rfl intO (of_decide_eq_true rfl) rfl ?_; intro w21 hs; have HS21 := Lib.hid (show St _ _ _ (_ :: _ :: _ :: _ :: _ :: []) from hs.out); clear hs HS20)
    | (refine wpl_store HS21.out 2 rfl rfl exprsO (of_decide_eq_true rfl) rfl ?_; intro w22 hs; have HS22 := Lib.hid (show St _ _ _ (_ :: _ :: _ :: _ :: _ :: []) from hs.out); clear hs HS21)
    | (refine wpl_loadS HS22.out 2 rfl rfl exT rfl ?_)
    | (refine wpl_storeS HS22.out 3 rfl rfl exT rfl fitsX' ?_; intro w23 hs; have HS23 := Lib.hid (show St _ _ _ (_ :: _ :: _ :: _ :: _ :: []) from hs.out); clear hs HS22))
  refine bp_cell HS23.out 3 exT rfl rfl rfl rfl rfl ⟨_, ⟨25, _, 0, [], _, es2, rfl, rfl, fun h => ?_, rfl⟩, HS23.out.sel [0, 0] rfl⟩
  exact congrArg (fun z => Sx.E.mk 25 (Sx.tk L σ).pos 0 [] z) (HX2.out h)
set_option maxHeartbeats 8000000 in
set_option maxRecDepth 100000 in
theorem called_word (b : Nat) (L : List Lx.Tok) (hL : Sx.Ok L) (σ : Sx.R) (hE : ∀ τ, Sx.M L τ + 16 ≤ Sx.M L σ → CE b L τ) (hse : Sx.sees L Sx.wWord σ = true) : Fn 291 #[.pointer (some ⟨b, 0, none⟩)] [rd b L σ]
    (EP b L (Sx.W L (Sx.text L σ) σ)) := by
  intro w P hP h0
  have HS := Lib.hid (St.start hP h0)
  have hat := HS.out.at'
  obtain ⟨he, htx⟩ := Sx.sees_text hse
  have C1 := Lib.hid (next_fn b L σ)
  rw [Sx.pk_tk he] at C1
  have M0 := Lib.hid (may_fn b L hL σ Sx.wMulhi (by decide))
  rw [Sx.may_no (show Sx.sees L Sx.wMulhi σ = false from Sx.sees_two hse (by decide))] at M0
  have M1 := Lib.hid (may_fn b L hL σ Sx.wCarry (by decide))
  rw [Sx.may_no (show Sx.sees L Sx.wCarry σ = false from Sx.sees_two hse (by decide))] at M1
  have M2 := Lib.hid (may_fn b L hL σ Sx.wSelect (by decide))
  rw [Sx.may_no (show Sx.sees L Sx.wSelect σ = false from Sx.sees_two hse (by decide))] at M2
  have M3 := Lib.hid (may_fn b L hL σ Sx.wWord (by decide))
  rw [Sx.may_is hse] at M3
  have CL := Lib.hid (list_many b L hL { σ with at' := σ.at' + 1 } 1 (by decide) (fun τ h => hE τ (by have := Sx.M_next he hat; omega)))
  have hW := Sx.W_call hL.ends hat he (w := (Sx.wWord, 26, 1)) (by rw [htx]; decide) (by rw [htx]; decide)
  rw [hW]
  have hF1 := tokF1
  have hmf : ∀ (fn : Go.Fn) (first cap : Array Value) (w : World), (Instr.makeFunc fn first cap).run Tryz.prog w = .ok (.func fn first cap) w := fun _ _ _ _ => rfl
  clear h0 hP hL hE hse hat he htx hW
  go_enter Tryz.func291, Tryz.ntmps291
  go_wp2_with (first
    | (refine wpl_box HS.out rfl rfl ?_; intro br w1 HS1; clear HS)
    | (first | (refine wpl_alloc HS1.out _ rfl exZ ?_; intro b2 w2 HS2; clear HS1) | (refine wpl_alloc HS3.out _ rfl exZ ?_; intro bx w4 HS4; clear HS3))
    | (first | (refine wpl_load HS2.out 2 rfl rfl ptrO rfl ?_) | (refine wpl_load HS5.out 3 rfl rfl ptrO rfl ?_) | (refine wpl_load HS6.out 3 rfl rfl ptrO rfl ?_) | (refine wpl_load HS7.out 3 rfl rfl ptrO rfl ?_) | (refine wpl_load HS8.out 3 rfl rfl ptrO rfl ?_) | (refine wpl_load HS9.out 3 rfl rfl ptrO rfl ?_) | (refine wpl_load HS10.out 3 rfl rfl ptrO rfl ?_))
    | (go_at_call 61; refine (HS2.out.call1 C1.out).mono ?_; rintro e w3 ⟨J, ⟨rfl, rfl⟩, hs⟩; simp only [List.cons_append, List.nil_append] at hs; have HS3 := Lib.hid hs; clear hs HS2)
    | (refine wpl_storeS HS4.out 1 rfl rfl exT rfl fitsX' ?_; intro w5 hs; have HS5 := Lib.hid (show St _ _ _ (_ :: _ :: _ :: _ :: []) from hs.out); clear hs HS4)
    | (go_at_call 121; first | (refine (HS5.out.call1 M0.out).mono ?_; rintro e w6 ⟨J, ⟨rfl, rfl⟩, hs⟩; simp only [List.cons_append, List.nil_append] at hs; have HS6 := Lib.hid hs; clear hs HS5) | (refine (HS6.out.call1 M1.out).mono ?_; rintro e w7 ⟨J, ⟨rfl, rfl⟩, hs⟩; simp only [List.cons_append, List.nil_append] at hs; have HS7 := Lib.hid hs; clear hs HS6) | (refine (HS7.out.call1 M2.out).mono ?_; rintro e w8 ⟨J, ⟨rfl, rfl⟩, hs⟩; simp only [List.cons_append, List.nil_append] at hs; have HS8 := Lib.hid hs; clear hs HS7) | (refine (HS8.out.call1 M3.out).mono ?_; rintro e w9 ⟨J, ⟨rfl, rfl⟩, hs⟩; simp only [List.cons_append, List.nil_append] at hs; have HS9 := Lib.hid hs; clear hs HS8))
    | (go_at_call 261; refine (HS9.out.call1 CL.out).mono ?_; rintro e w20 ⟨J, ⟨v2, es2, rfl, rfl, hx2, h12⟩, hs⟩; simp only [List.cons_append, List.nil_append] at hs; have HX2 := Lib.hid hx2; obtain ⟨q2, l2, cap2, rfl⟩ := hs.lsLen 1 rfl; have HS20 := Lib.hid hs; clear hs hx2)
    | (refine wpl_store HS20.out 2 rfl rfl intO (of_decide_eq_true rfl) rfl ?_; intro w21 hs; have HS21 := Lib.hid (show St _ _ _ (_ :: _ :: _ :: _ :: _ :: []) from hs.out); clear hs HS20)
    | (refine wpl_store HS21.out 2 rfl rfl exprsO (of_decide_eq_true rfl) rfl ?_; intro w22 hs; have HS22 := Lib.hid (show St _ _ _ (_ :: _ :: _ :: _ :: _ :: []) from hs.out); clear hs HS21)
    | (refine wpl_loadS HS22.out 2 rfl rfl exT rfl ?_)
    | (refine wpl_storeS HS22.out 3 rfl rfl exT rfl fitsX' ?_; intro w23 hs; have HS23 := Lib.hid (show St _ _ _ (_ :: _ :: _ :: _ :: _ :: []) from hs.out); clear hs HS22))
  refine bp_cell HS23.out 3 exT rfl rfl rfl rfl rfl ⟨_, ⟨26, _, 0, [], _, es2, rfl, rfl, fun h => ?_, rfl⟩, HS23.out.sel [0, 0] rfl⟩
  exact congrArg (fun z => Sx.E.mk 26 (Sx.tk L σ).pos 0 [] z) (HX2.out h)
set_option maxHeartbeats 8000000 in
set_option maxRecDepth 100000 in
theorem called_ror (b : Nat) (L : List Lx.Tok) (hL : Sx.Ok L) (σ : Sx.R) (hE : ∀ τ, Sx.M L τ + 16 ≤ Sx.M L σ → CE b L τ) (hse : Sx.sees L Sx.wRor σ = true) : Fn 291 #[.pointer (some ⟨b, 0, none⟩)] [rd b L σ]
    (EP b L (Sx.W L (Sx.text L σ) σ)) := by
  intro w P hP h0
  have HS := Lib.hid (St.start hP h0)
  have hat := HS.out.at'
  obtain ⟨he, htx⟩ := Sx.sees_text hse
  have C1 := Lib.hid (next_fn b L σ)
  rw [Sx.pk_tk he] at C1
  have M0 := Lib.hid (may_fn b L hL σ Sx.wMulhi (by decide))
  rw [Sx.may_no (show Sx.sees L Sx.wMulhi σ = false from Sx.sees_two hse (by decide))] at M0
  have M1 := Lib.hid (may_fn b L hL σ Sx.wCarry (by decide))
  rw [Sx.may_no (show Sx.sees L Sx.wCarry σ = false from Sx.sees_two hse (by decide))] at M1
  have M2 := Lib.hid (may_fn b L hL σ Sx.wSelect (by decide))
  rw [Sx.may_no (show Sx.sees L Sx.wSelect σ = false from Sx.sees_two hse (by decide))] at M2
  have M3 := Lib.hid (may_fn b L hL σ Sx.wWord (by decide))
  rw [Sx.may_no (show Sx.sees L Sx.wWord σ = false from Sx.sees_two hse (by decide))] at M3
  have M4 := Lib.hid (may_fn b L hL σ Sx.wRor (by decide))
  rw [Sx.may_is hse] at M4
  have CL := Lib.hid (fun br bx => list_ror b L hL { σ with at' := σ.at' + 1 } (fun τ h => hE τ (by have := Sx.M_next he hat; omega)) br bx (Sx.tk L σ).pos)
  rw [Sx.W_ror hL.ends hat he htx]
  have hF1 := tokF1
  have hmf : ∀ (fn : Go.Fn) (first cap : Array Value) (w : World), (Instr.makeFunc fn first cap).run Tryz.prog w = .ok (.func fn first cap) w := fun _ _ _ _ => rfl
  clear h0 hP hL hE hse hat he htx
  go_enter Tryz.func291, Tryz.ntmps291
  go_wp2_with (first
    | (refine wpl_box HS.out rfl rfl ?_; intro br w1 HS1; clear HS)
    | (first | (refine wpl_alloc HS1.out _ rfl exZ ?_; intro b2 w2 HS2; clear HS1) | (refine wpl_alloc HS3.out _ rfl exZ ?_; intro bx w4 HS4; clear HS3))
    | (first | (refine wpl_load HS2.out 2 rfl rfl ptrO rfl ?_) | (refine wpl_load HS5.out 3 rfl rfl ptrO rfl ?_) | (refine wpl_load HS6.out 3 rfl rfl ptrO rfl ?_) | (refine wpl_load HS7.out 3 rfl rfl ptrO rfl ?_) | (refine wpl_load HS8.out 3 rfl rfl ptrO rfl ?_) | (refine wpl_load HS9.out 3 rfl rfl ptrO rfl ?_) | (refine wpl_load HS10.out 3 rfl rfl ptrO rfl ?_))
    | (go_at_call 61; refine (HS2.out.call1 C1.out).mono ?_; rintro e w3 ⟨J, ⟨rfl, rfl⟩, hs⟩; simp only [List.cons_append, List.nil_append] at hs; have HS3 := Lib.hid hs; clear hs HS2)
    | (refine wpl_storeS HS4.out 1 rfl rfl exT rfl fitsX' ?_; intro w5 hs; have HS5 := Lib.hid (show St _ _ _ (_ :: _ :: _ :: _ :: []) from hs.out); clear hs HS4)
    | (go_at_call 121; first | (refine (HS5.out.call1 M0.out).mono ?_; rintro e w6 ⟨J, ⟨rfl, rfl⟩, hs⟩; simp only [List.cons_append, List.nil_append] at hs; have HS6 := Lib.hid hs; clear hs HS5) | (refine (HS6.out.call1 M1.out).mono ?_; rintro e w7 ⟨J, ⟨rfl, rfl⟩, hs⟩; simp only [List.cons_append, List.nil_append] at hs; have HS7 := Lib.hid hs; clear hs HS6) | (refine (HS7.out.call1 M2.out).mono ?_; rintro e w8 ⟨J, ⟨rfl, rfl⟩, hs⟩; simp only [List.cons_append, List.nil_append] at hs; have HS8 := Lib.hid hs; clear hs HS7) | (refine (HS8.out.call1 M3.out).mono ?_; rintro e w9 ⟨J, ⟨rfl, rfl⟩, hs⟩; simp only [List.cons_append, List.nil_append] at hs; have HS9 := Lib.hid hs; clear hs HS8) | (refine (HS9.out.call1 M4.out).mono ?_; rintro e w10 ⟨J, ⟨rfl, rfl⟩, hs⟩; simp only [List.cons_append, List.nil_append] at hs; have HS10 := Lib.hid hs; clear hs HS9))
    | (go_at_call 261; refine (St.call (pre := rd b L _ :: capI b br bx (Sx.tk L σ).pos 0) (I := [_]) (St.sel HS10.out [0, 2, 0, 0] rfl) (CL.out br bx)).mono ?_; rintro e w20 ⟨J, ⟨v2, es2, nn, rfl, rfl, hx2, h12⟩, hs⟩; simp only [List.cons_append, List.nil_append] at hs; have HX2 := Lib.hid hx2; obtain ⟨q2, l2, cap2, rfl⟩ := hs.lsLen 1 rfl; have HS20 := Lib.hid hs; clear hs hx2)
    | (refine wpl_store HS20.out 3 rfl rfl intO (of_decide_eq_true rfl) rfl ?_; intro w21 hs; have HS21 := Lib.hid (show St _ _ _ (_ :: _ :: _ :: _ :: _ :: []) from hs.out); clear hs HS20)
    | (refine wpl_store HS21.out 3 rfl rfl exprsO (of_decide_eq_true rfl) rfl ?_; intro w22 hs; have HS22 := Lib.hid (show St _ _ _ (_ :: _ :: _ :: _ :: _ :: []) from hs.out); clear hs HS21)
    | (refine wpl_loadS HS22.out 3 rfl rfl exT rfl ?_)
    | (refine wpl_storeS HS22.out 4 rfl rfl exT rfl fitsX' ?_; intro w23 hs; have HS23 := Lib.hid (show St _ _ _ (_ :: _ :: _ :: _ :: _ :: []) from hs.out); clear hs HS22))
  refine bp_cell HS23.out 4 exT rfl rfl rfl rfl rfl ⟨_, ⟨16, _, nn, [], _, es2, rfl, rfl, fun h => ?_, rfl⟩, HS23.out.sel [0, 0] rfl⟩
  have h2 := HX2.out h
  rw [h2.2, ← h2.1]
  rfl
set_option maxHeartbeats 8000000 in
set_option maxRecDepth 100000 in
theorem called_no (b : Nat) (L : List Lx.Tok) (hL : Sx.Ok L) (σ : Sx.R) (hno : ∀ s, s ∈ [Sx.wMulhi, Sx.wCarry, Sx.wSelect, Sx.wWord, Sx.wRor] → Sx.sees L s σ = false) (r : Sx.E × Sx.R) (hr : r.2 = Sx.wrong L 10 σ) : Fn 291 #[.pointer (some ⟨b, 0, none⟩)] [rd b L σ]
    (EP b L r) := by
  intro w P hP h0
  have HS := Lib.hid (St.start hP h0)
  have C1 := Lib.hid (next_fn b L σ)
  have C2 := Lib.hid (fail_fn b L σ 10 (by decide))
  have M0 := Lib.hid (may_fn b L hL σ Sx.wMulhi (by decide))
  rw [Sx.may_no (show Sx.sees L Sx.wMulhi σ = false from hno Sx.wMulhi (by decide))] at M0
  have M1 := Lib.hid (may_fn b L hL σ Sx.wCarry (by decide))
  rw [Sx.may_no (show Sx.sees L Sx.wCarry σ = false from hno Sx.wCarry (by decide))] at M1
  have M2 := Lib.hid (may_fn b L hL σ Sx.wSelect (by decide))
  rw [Sx.may_no (show Sx.sees L Sx.wSelect σ = false from hno Sx.wSelect (by decide))] at M2
  have M3 := Lib.hid (may_fn b L hL σ Sx.wWord (by decide))
  rw [Sx.may_no (show Sx.sees L Sx.wWord σ = false from hno Sx.wWord (by decide))] at M3
  have M4 := Lib.hid (may_fn b L hL σ Sx.wRor (by decide))
  rw [Sx.may_no (show Sx.sees L Sx.wRor σ = false from hno Sx.wRor (by decide))] at M4
  have hre : r.2.err ≠ 0 := by rw [hr]; exact Sx.wrong_err (by decide)
  have HR := Lib.hid (And.intro hr hre)
  have hF1 := tokF1
  clear h0 hP hL hno hr hre
  go_enter Tryz.func291, Tryz.ntmps291
  go_wp2_with (first
    | (refine wpl_box HS.out rfl rfl ?_; intro br w1 HS1; clear HS)
    | (first | (refine wpl_alloc HS1.out _ rfl exZ ?_; intro b2 w2 HS2; clear HS1) | (refine wpl_alloc HS3.out _ rfl exZ ?_; intro bx w4 HS4; clear HS3))
    | (first | (refine wpl_load HS2.out 2 rfl rfl ptrO rfl ?_) | (refine wpl_load HS5.out 3 rfl rfl ptrO rfl ?_) | (refine wpl_load HS6.out 3 rfl rfl ptrO rfl ?_) | (refine wpl_load HS7.out 3 rfl rfl ptrO rfl ?_) | (refine wpl_load HS8.out 3 rfl rfl ptrO rfl ?_) | (refine wpl_load HS9.out 3 rfl rfl ptrO rfl ?_) | (refine wpl_load HS10.out 3 rfl rfl ptrO rfl ?_))
    | (go_at_call 61; refine (HS2.out.call1 C1.out).mono ?_; rintro e w3 ⟨J, ⟨rfl, rfl⟩, hs⟩; simp only [List.cons_append, List.nil_append] at hs; have HS3 := Lib.hid hs; clear hs HS2)
    | (refine wpl_storeS HS4.out 1 rfl rfl exT rfl fitsX' ?_; intro w5 hs; have HS5 := Lib.hid (show St _ _ _ (_ :: _ :: _ :: _ :: []) from hs.out); clear hs HS4)
    | (go_at_call 121; first | (refine (HS5.out.call1 M0.out).mono ?_; rintro e w6 ⟨J, ⟨rfl, rfl⟩, hs⟩; simp only [List.cons_append, List.nil_append] at hs; have HS6 := Lib.hid hs; clear hs HS5) | (refine (HS6.out.call1 M1.out).mono ?_; rintro e w7 ⟨J, ⟨rfl, rfl⟩, hs⟩; simp only [List.cons_append, List.nil_append] at hs; have HS7 := Lib.hid hs; clear hs HS6) | (refine (HS7.out.call1 M2.out).mono ?_; rintro e w8 ⟨J, ⟨rfl, rfl⟩, hs⟩; simp only [List.cons_append, List.nil_append] at hs; have HS8 := Lib.hid hs; clear hs HS7) | (refine (HS8.out.call1 M3.out).mono ?_; rintro e w9 ⟨J, ⟨rfl, rfl⟩, hs⟩; simp only [List.cons_append, List.nil_append] at hs; have HS9 := Lib.hid hs; clear hs HS8) | (refine (HS9.out.call1 M4.out).mono ?_; rintro e w10 ⟨J, ⟨rfl, rfl⟩, hs⟩; simp only [List.cons_append, List.nil_append] at hs; have HS10 := Lib.hid hs; clear hs HS9))
    | (go_at_call 178; refine (HS10.out.call1 C2.out).mono ?_; rintro e w20 ⟨J, ⟨rfl, rfl⟩, hs⟩; simp only [List.cons_append, List.nil_append] at hs; have HS20 := Lib.hid hs; clear hs HS10)
    | (refine wpl_loadS HS20.out 1 rfl rfl exT rfl ?_)
    | (refine wpl_storeS HS20.out 2 rfl rfl exT rfl fitsX' ?_; intro w23 hs; have HS23 := Lib.hid (show St _ _ _ (_ :: _ :: _ :: _ :: []) from hs.out); clear hs HS20))
  refine bp_cell HS23.out 2 exT rfl rfl rfl rfl rfl ⟨_, ⟨0, _, 0, [], _, [], rfl, rfl, fun h => absurd h HR.out.2, rfl⟩, ?_⟩
  rw [HR.out.1]
  exact (St.sel HS23.out [0] rfl).to fun P h => h.under fun P h => lsI_nil h
end Go.Proofs.YtjfdcnggnldgdaaGreatDoor
end
