/-
Chains of signs between two, and an expression.
-/
import Derived.Test.YtbnhegipdfkdgaaDoorP24a
namespace Go.Proofs.YtbnhegipdfkdgaaDoor
open Go.ChangeShapes Go.WideShapes Go.ChangeAt Go.RowKit
set_option linter.unusedVariables false
set_option linter.unusedSimpArgs false

theorem further_any (b : Nat) (L : List Lx.Tok) (hL : Sx.Ok L) (σ : Sx.R) (l : Nat) (z : Int) (hz : z = l) (hl : l ≠ 0) (x : Sx.E) (k p n : Int) (nm : List UInt8) (v : Value) (es : List Sx.E) (hv : v.oneCell' = true) (hx : σ.err = 0 → x = .mk k p n nm es)
    (hC : ∀ τ, Sx.M L τ ≤ Sx.M L σ → CC b L (IntKind.i64.wrap (z + 1)) l τ) : Fn 77 #[.pointer (some ⟨b, 0, none⟩), .int .i64 z, .agg (exA k p n nm v)] [rd b L σ, lsI v es] (FP b L l x σ) := by
  by_cases hyes : σ.err = 0 ∧ (Sx.tight (Sx.text L σ)).1 = l
  · by_cases h5 : l = 5
    · exact further_shift b L hL σ l z hz hl x k p n nm v es hv hx hyes h5
    · exact further_more b L hL σ l z hz hl x k p n nm v es hv hx hyes h5 (fun τ h => hC τ (by omega))
  · exact further_no b L hL σ l z hz hl x k p n nm v es hv hx hyes
set_option maxHeartbeats 8000000 in
set_option maxRecDepth 100000 in
theorem chain_eight (b : Nat) (L : List Lx.Tok) (hL : Sx.Ok L) (σ : Sx.R) (hU : CU b L σ) : CC b L 8 7 σ := by
  intro w P hP h0
  have HS := Lib.hid (St.start hP h0)
  have hat := HS.out.at'
  rw [Sx.X_seven hL.ends hat]
  have CX := Lib.hid hU
  clear h0 hP hL hU hat
  go_enter Tryd.func78, Tryd.ntmps78
  go_wp2_with (first
    | (refine wpl_alloc HS.out _ rfl exZ ?_; intro b1 w1 HS1; clear HS)
    | (go_at_call 81; refine (HS1.out.call1 CX.out).mono ?_; rintro e w2 ⟨J, ⟨k2, p2, n2, nm2, v2, es2, rfl, rfl, hx2, h12⟩, hs⟩; simp only [List.cons_append, List.nil_append] at hs; have HX2 := Lib.hid hx2; obtain ⟨q2, l2, cap2, rfl⟩ := hs.lsLen 1 rfl; have HS2 := Lib.hid hs; clear hs hx2)
    | (refine wpl_storeS HS2.out 2 rfl rfl exT rfl fitsX' ?_; intro w3 hs; have HS3 := Lib.hid (show St _ _ _ (_ :: _ :: _ :: []) from hs.out); clear hs HS2))
  refine bp_cell HS3.out 2 exT rfl rfl rfl rfl rfl ⟨_, ⟨k2, p2, n2, nm2, _, es2, rfl, rfl, HX2.out, rfl⟩, HS3.out.sel [0, 0] rfl⟩
def boolOf (v : Value) : Bool := match v with | .bool x => x | _ => false
/-- how many rounds a chain may still have -/
def left9 (b : Nat) (v : Value) (w : World) : Nat := if boolOf v then lenOf ((w.cell? ⟨b, 0, none⟩).getD undef) + 1 else 0
theorem left9_no (b : Nat) (w : World) : left9 b (.bool false) w = 0 := rfl
theorem St.left9 {X : Nat → Prop} {w0 w : World} {b : Nat} {L : List Lx.Tok} {σ : Sx.R} {I : List It} (h : St X w0 w (rd b L σ :: I)) : left9 b (.bool true) w = L.length - Sx.cur L σ + 1 := by
  obtain ⟨a, cap, c, m, e, p, hr, hs⟩ := h.rdOpen
  have h1 := hs.cell 0 rfl 0
  have h2 : (rdC a cap L c m e p)[0]? = some (.slice (some (a.add (c * 4))) (L.length - c) (cap - c)) := rfl
  unfold Go.Proofs.YtbnhegipdfkdgaaDoor.left9
  rw [h1, h2, hr.hc]
  rfl
/-- a sign read: fewer tokens are left -/
theorem Sx.step_cur {L : List Lx.Tok} (hL : Sx.Ends L) {x : Sx.E} {σ : Sx.R} (hi : σ.at' < L.length) (he : σ.err = 0) (h : (Sx.tight (Sx.text L σ)).1 ≠ 0) : Sx.cur L σ < Sx.cur L (Sx.step L x σ).2 ∧ Sx.cur L (Sx.step L x σ).2 < L.length := by
  have h1 := Sx.step_le hL (x := x) he h
  have h2 := (Sx.step_in hL (x := x) hi he h).1
  have hk := Sx.tight_kind (L := L) (σ := σ) (n := 0) (by omega)
  have h3 : σ.at' + 1 < L.length := by
    refine hL σ.at' _ (List.getElem?_eq_getElem hi) ?_
    have : Sx.tk L σ = L[σ.at'] := by unfold Sx.tk; rw [List.getD_eq_getElem?_getD, List.getElem?_eq_getElem hi]; rfl
    rw [← this]; exact hk
  have h4 : σ.at' + 1 ≤ (Sx.step L x σ).2.at' := h1.1
  unfold Sx.cur
  rw [if_pos he]
  split <;> omega
set_option maxHeartbeats 8000000 in
set_option maxRecDepth 100000 in
theorem chain_fn (b : Nat) (L : List Lx.Tok) (hL : Sx.Ok L) (σ : Sx.R) (m : Nat) (hm2 : 2 ≤ m) (hm7 : m ≤ 7) (z : Int) (hz : z = m) (hC : ∀ τ, Sx.M L τ ≤ Sx.M L σ → CC b L ((m : Int) + 1) m τ) : CC b L z (m - 1) σ := by
  intro w P hP h0
  have HS := Lib.hid (St.start hP h0)
  have hat := HS.out.at'
  have hch := Sx.X_chain hL.ends m (by omega) hm7 hat
  have hw1 : wrap64 (z + 1) = (m : Int) + 1 := by simp only [wrap64]; omega
  have hw2 : IntKind.i64.wrap (z + 1) = (m : Int) + 1 := by rw [IntKind.wrap_i64]; omega
  have CX := Lib.hid (show CC b L (wrap64 (z + 1)) m σ by rw [hw1]; exact hC σ (Nat.le_refl _))
  have HC := Lib.hid (show ∀ τ, Sx.M L τ ≤ Sx.M L σ → CC b L (IntKind.i64.wrap (z + 1)) m τ by rw [hw2]; exact hC)
  have HL := Lib.hid hL
  have HCH := Lib.hid hch
  have HM := Lib.hid (And.intro hm2 (And.intro hm7 hz))
  have hz7 : ¬ 7 < z := by omega
  have hle := Sx.M_le (Sx.le_X hL.ends m σ)
  have HLe := Lib.hid hle
  clear h0 hP hL hC hch hm2 hm7 hz hle hat hw1 hw2
  go_enter Tryd.func78, Tryd.ntmps78
  go_wp2_with (first
    | (first | (refine wpl_alloc HS.out _ rfl exZ ?_; intro b1 w1 HS1; clear HS) | (refine wpl_alloc HS2.out _ rfl exZ ?_; intro b5 w3 HS3; clear HS2))
    | (go_at_call 78; refine (HS1.out.call1 CX.out).mono ?_; rintro e w2 ⟨J, ⟨k2, p2, n2, nm2, v2, es2, rfl, rfl, hx2, h12⟩, hs⟩; simp only [List.cons_append, List.nil_append] at hs; have HX2 := Lib.hid hx2; obtain ⟨q2, l2, cap2, rfl⟩ := hs.lsLen 1 rfl; have HS2 := Lib.hid hs; clear hs hx2)
    | (refine wpl_storeS HS3.out 1 rfl rfl exT rfl fitsX' ?_; intro w4 hs; have HS4 := Lib.hid (St.sel (show St _ _ _ (_ :: _ :: _ :: _ :: []) from hs.out) [0, 1, 0, 0] rfl); clear hs HS3))
  go_loopw [6] (fun v wr => ∃ (k p n : Int) (nm : List UInt8) (q : Option Addr) (l9 c9 : Nat) (es : List Sx.E) (x : Sx.E) (τ : Sx.R) (more : Bool), v = .bool more ∧ Hid (St P w wr [rd b L τ, lsI (.slice q l9 c9) es, .row b5 44 (exA k p n nm (.slice q l9 c9)), .row b1 44 (exA 0 0 0 [] (.slice none 0 0))] ∧ Sx.M L τ ≤ Sx.M L σ ∧ (τ.err = 0 → x = .mk k p n nm es) ∧ (if more = true then Sx.X L (m - 1) σ = Sx.Sg L (m - 1) m false x τ else Sx.X L (m - 1) σ = (x, τ)))) (fun v wr => left9 b v wr)
  case atStart =>
    exact ⟨k2, p2, n2, nm2, q2, l2, cap2, es2, (Sx.X L m σ).1, (Sx.X L m σ).2, true, rfl, Lib.hid ⟨HS4.out, HLe.out, HX2.out, by rw [if_pos rfl]; exact HCH.out⟩⟩
  case round =>
    obtain ⟨k, p, n, nm, q, l9, c9, es, x, τ, more, rfl, HK⟩ := hrel
    cases more
    · have HST := Lib.hid HK.out.1
      have HF := Lib.hid HK.out.2.2
      clear HK HC HCH HLe CX HS4 HX2
      go_wp2_with (first
        | (refine wpl_loadS HST.out 2 rfl rfl exT rfl ?_)
        | (refine wpl_storeS HST.out 3 rfl rfl exT rfl fitsX' ?_; intro w9 hs; have HS9 := Lib.hid (show St _ _ _ (_ :: _ :: _ :: _ :: []) from hs.out); clear hs HST))
      have hf := HF.out.2
      rw [if_neg (by decide)] at hf
      refine bp_cell HS9.out 3 exT rfl rfl rfl rfl rfl ⟨_, ⟨k, p, n, nm, _, es, rfl, rfl, ?_, rfl⟩, ?_⟩
      · rw [hf]; exact HF.out.1
      · rw [hf]; exact HS9.out.sel [0, 0] rfl
    · have HST := Lib.hid HK.out.1
      have HF := Lib.hid HK.out.2
      have hat := HST.out.at'
      have CF := Lib.hid (further_any b L HL.out τ m z HM.out.2.2 (by have := HM.out.1; omega) x k p n nm (.slice q l9 c9) es rfl HF.out.2.1 (fun ρ h => HC.out ρ (Nat.le_trans h HF.out.1)))
      have HAT := Lib.hid hat
      have HL9 := Lib.hid (HST.out.left9)
      clear HK HC HCH HLe CX HS4 HX2 hat
      go_wp2_with (first
        | (refine wpl_loadS HST.out 2 rfl rfl exT rfl ?_)
        | (go_at_call 77; refine (St.call (pre := [rd b L τ, lsI (.slice q l9 c9) es]) HST.out CF.out).mono ?_; rintro e w6 ⟨J, ⟨k3, p3, n3, nm3, v3, es3, r3, bb, rfl, rfl, hx3, h13, hbb, hr3⟩, hs⟩; simp only [List.cons_append, List.nil_append] at hs; have HX3 := Lib.hid hx3; have HB := Lib.hid (And.intro hbb hr3); obtain ⟨q3, l3, cap3, rfl⟩ := hs.lsLen 1 rfl; have HS6 := Lib.hid hs; clear hs hx3 hbb hr3)
        | (refine wpl_storeS HS6.out 2 rfl rfl exT rfl fitsX' ?_; intro w7 hs; have HS7 := Lib.hid (show St _ _ _ (_ :: _ :: _ :: _ :: []) from hs.out); clear hs HS6))
      have hF := HF.out.2.2
      first | rw [if_pos rfl] at hF | rw [if_pos trivial] at hF
      obtain ⟨hbb, hr3⟩ := HB.out
      have hm := HM.out
      by_cases hit : τ.err = 0 ∧ (Sx.tight (Sx.text L τ)).1 = m
      · rw [if_pos hit] at hr3
        rw [decide_eq_true hit] at hbb
        subst hbb hr3
        have hne : (Sx.tight (Sx.text L τ)).1 ≠ 0 := by rw [hit.2]; omega
        have hin := Sx.step_in HL.out.ends (x := x) HAT.out hit.1 hne
        refine ⟨⟨k3, p3, n3, nm3, q3, l3, cap3, es3, (Sx.step L x τ).1, (Sx.step L x τ).2, true, rfl, Lib.hid ⟨HS7.out, Nat.le_trans (by omega) HF.out.1, HX3.out, ?_⟩⟩, ?_⟩
        · rw [if_pos rfl, hF, Sx.Sg_go HL.out.ends x HAT.out hit.1 (by rw [hit.2]; simp; omega), hit.2]
          rw [decide_eq_false (show ¬ m = 1 by omega)]; rfl
        · have hc := Sx.step_cur HL.out.ends (x := x) HAT.out hit.1 hne
          rw [HL9.out, HS7.out.left9]; omega
      · rw [if_neg hit] at hr3
        rw [decide_eq_false hit] at hbb
        subst hbb hr3
        refine ⟨⟨k3, p3, n3, nm3, q3, l3, cap3, es3, x, τ, false, rfl, Lib.hid ⟨HS7.out, HF.out.1, HX3.out, ?_⟩⟩, ?_⟩
        · rw [if_neg (by decide), hF]
          by_cases he : τ.err = 0
          · exact Sx.Sg_stop HL.out.ends x HAT.out (by have : ¬ (Sx.tight (Sx.text L τ)).1 = m := fun h => hit ⟨he, h⟩; omega)
          · exact Sx.Sg_err HL.out.ends _ _ _ _ HAT.out he
        · rw [HL9.out, left9_no]; omega
set_option maxHeartbeats 8000000 in
set_option maxRecDepth 100000 in
theorem expr_fn (b : Nat) (L : List Lx.Tok) (hL : Sx.Ok L) (σ : Sx.R) (hC : ∀ τ, Sx.M L τ ≤ Sx.M L σ → CC b L 2 1 τ) : CE b L σ := by
  intro w P hP h0
  have HS := Lib.hid (St.start hP h0)
  have hat := HS.out.at'
  rw [Sx.X_zero hL.ends hat]
  generalize hr0 : (if (Sx.X L 1 σ).2.err = 0 ∧ (Sx.tight (Sx.text L (Sx.X L 1 σ).2)).1 = 1 then Sx.step L (Sx.X L 1 σ).1 (Sx.X L 1 σ).2 else Sx.X L 1 σ) = R0
  have HR0 := Lib.hid hr0
  have CX := Lib.hid (hC σ (Nat.le_refl _))
  have hle := Sx.M_le (Sx.le_X hL.ends 1 σ)
  have hC2 : ∀ τ, Sx.M L τ ≤ Sx.M L (Sx.X L 1 σ).2 → CC b L (IntKind.i64.wrap (1 + 1)) 1 τ := fun τ h => by rw [show IntKind.i64.wrap (1 + 1) = 2 from by rw [IntKind.wrap_i64]; omega]; exact hC τ (Nat.le_trans h hle)
  have CF := Lib.hid (fun k p n nm v es hv hx => further_any b L hL (Sx.X L 1 σ).2 1 1 rfl (by decide) (Sx.X L 1 σ).1 k p n nm v es hv hx hC2)
  clear h0 hP hL hC hC2 hle hat hr0
  go_enter Tryd.func71, Tryd.ntmps71
  go_wp2_with (first
    | (first | (refine wpl_alloc HS.out _ rfl exZ ?_; intro b1 w1 HS1; clear HS) | (refine wpl_alloc HS6.out _ rfl exZ ?_; intro b5 w7 HS7; clear HS6))
    | (go_at_call 78; refine (HS1.out.call1 CX.out).mono ?_; rintro e w2 ⟨J, ⟨k2, p2, n2, nm2, v2, es2, rfl, rfl, hx2, h12⟩, hs⟩; simp only [List.cons_append, List.nil_append] at hs; have HX2 := Lib.hid hx2; obtain ⟨q2, l2, cap2, rfl⟩ := hs.lsLen 1 rfl; have HS2 := Lib.hid hs; clear hs hx2)
    | (go_at_call 77; refine (St.call (pre := [rd b L (Sx.X L 1 σ).2, lsI (.slice q2 l2 cap2) es2]) HS2.out (CF.out _ _ _ _ _ _ rfl HX2.out)).mono ?_; rintro e w6 ⟨J, ⟨k3, p3, n3, nm3, v3, es3, r3, bb, rfl, rfl, hx3, h13, hbb, hr3⟩, hs⟩; simp only [List.cons_append, List.nil_append] at hs; have HX3 := Lib.hid hx3; have HB := Lib.hid hr3; obtain ⟨q3, l3, cap3, rfl⟩ := hs.lsLen 1 rfl; have HS6 := Lib.hid hs; clear hs hx3 hbb hr3)
    | (first | (refine wpl_storeS HS7.out 1 rfl rfl exT rfl fitsX' ?_; intro w8 hs; have HS8 := Lib.hid (show St _ _ _ (_ :: _ :: _ :: _ :: []) from hs.out); clear hs HS7) | (refine wpl_storeS HS8.out 3 rfl rfl exT rfl fitsX' ?_; intro w9 hs; have HS9 := Lib.hid (show St _ _ _ (_ :: _ :: _ :: _ :: []) from hs.out); clear hs HS8))
    | (refine wpl_loadS HS8.out 1 rfl rfl exT rfl ?_))
  have hb : r3 = R0 := HB.out.trans HR0.out
  subst hb
  exact bp_cell HS9.out 3 exT rfl rfl rfl rfl rfl ⟨_, ⟨k3, p3, n3, nm3, _, es3, rfl, rfl, HX3.out, rfl⟩, HS9.out.sel [0, 1] rfl⟩
end Go.Proofs.YtbnhegipdfkdgaaDoor
