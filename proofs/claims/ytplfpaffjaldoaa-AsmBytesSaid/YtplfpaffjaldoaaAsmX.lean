/-
  Package asm: what widen returns.
-/
import Derived.Laws.AppendOwnNone
import Derived.WalkMore
import Derived.Test.YtplfpaffjaldoaaAsmM
namespace Go.Proofs.Ytplfpaffjaldoaa
open Go.ChangeShapes Go.WideShapes Go.ChangeAt Go.RowKit
set_option linter.unusedVariables false
set_option linter.unusedSimpArgs false

/-- bools in a block of their own -/
def BoolsAt (W : World) (aw : Addr) (gw : Nat) (wl : List Bool) : Prop := aw = ⟨gw, 0, none⟩ ∧ W.heap[gw]? = some (.cells (wl.map Value.bool).toArray 4 (0, 0))
section
variable {W W' : World} {aw : Addr} {gw : Nat} {wl : List Bool}
theorem BoolsAt.cell (h : BoolsAt W aw gw wl) (j : Nat) (hj : j < wl.length) : W.cell? (aw.add j) = some (.bool wl[j]) := by
  obtain ⟨rfl, hg⟩ := h
  rw [addr_mul]
  simp [World.cell?, hg, hj]
theorem BoolsAt.open' (h : BoolsAt W aw gw wl) (j : Nat) : W.frozen? (aw.add j) = false := by
  obtain ⟨rfl, hg⟩ := h
  rw [addr_mul]
  simp [World.frozen?, hg]
theorem BoolsAt.set (h : BoolsAt W aw gw wl) (j : Nat) : BoolsAt (W.setCell (aw.add j) (.bool true)) aw gw (wl.set j true) := by
  obtain ⟨rfl, hg⟩ := h
  refine ⟨rfl, ?_⟩
  rw [addr_mul]
  obtain ⟨hlt, hk⟩ := Array.getElem?_eq_some_iff.1 hg
  show (W.heap.modify gw _)[gw]? = _
  rw [Array.getElem?_eq_getElem (by rw [Array.size_modify]; exact hlt), Array.getElem_modify_self, hk]
  simp [List.map_set]
theorem BoolsAt.kept (h : BoolsAt W aw gw wl) {row : Option Nat} (hg : W.grownBy W' row) (hne : some gw ≠ row) : BoolsAt W' aw gw wl := by
  obtain ⟨rfl, hb⟩ := h
  exact ⟨rfl, (hg.block gw (Array.getElem?_eq_some_iff.1 hb).1 hne).trans hb⟩
theorem BoolsAt.slice (h : BoolsAt W aw gw wl) (c : Nat) : SliceC boolC 1 W (.slice (some aw) wl.length c) wl := by
  refine ⟨some aw, c, rfl, fun k hk => ⟨aw, rfl, fun j u hj => ?_⟩⟩
  have hj0 : j = 0 := by
    have := (List.getElem?_eq_some_iff.1 hj).1
    simpa [boolC] using this
  subst hj0
  simp [boolC] at hj
  subst hj
  rw [add_zero', Nat.mul_one]
  exact h.cell k hk
theorem BoolsAt.grown (h : BoolsAt W aw gw wl) (j : Nat) (v : Value) : W.grownBy (W.setCell (aw.add j) v) (some gw) := by
  obtain ⟨rfl, _⟩ := h
  rw [addr_mul]
  exact grown_set _ _ _ _
theorem BoolsAt.lt (h : BoolsAt W aw gw wl) : gw < W.heap.size := (Array.getElem?_eq_some_iff.1 h.2).1
theorem bools_new (w : World) (m : Nat) : BoolsAt (w.alloc (.cells (Array.replicate m (.bool false)) 4)) ⟨w.heap.size, 0, none⟩ w.heap.size (List.replicate m false) := by
  refine ⟨rfl, ?_⟩
  rw [heap_alloc_new]
  simp
end
/-- an append of a slice to an own row, also of none -/
theorem wpList_append_row {P : Program} {w : World} {ops : Array Oper} {rest : List Oper} {o : Oper} {a : Act} {Q : Exit → Act → World → Prop} (hgd : o.guard = none) (s x : Operand) (t : TypeId)
    (ho : o.op = .call { callee := .builtin .append, args := #[s, x], argTypes := #[t, t] })
    (base : Nat) (e : TypeId) (i : TypeInfo) (z : Value) (size bytes : Nat) (ht : P.underlying t = some (.slice e)) (hi : P.info? e = some i) (hz : i.zero = some z)
    (hsize : i.size = size) (hby : i.bytes = bytes) (hzs : z.cells.size = size) (hsz : 0 < size)
    (v : Value) (n : Nat) (xs : List Value) (hs : a.eval s = v) (hown : w.ownsRow base e size v n xs)
    (ao : Option Addr) (m c : Nat) (news : List Value) (hx : a.eval x = .slice ao m c) (hl : news.length = m * size) (hnone : ao = none → m = 0 ∧ c = 0) (hnews : ∀ ad, ao = some ad → ∀ j u, news[j]? = some u → w.cell? (ad.add j) = some u) (h1 : ∀ u ∈ news, u.oneCell' = true)
    (h63 : n + m ≤ maxLen) (hbytes : (n + m) * bytes ≤ 140737488355328) (hbase : base ≤ w.heap.size)
    (h : ∀ v' w', w'.ownsRow base e size v' (n + m) (xs ++ news) → w.grownBy w' v.ownBlock → wpList P ops Q rest (a.put o.dst v') w') : wpList P ops Q (o :: rest) a w := by
  cases ao with
  | some ad => exact wpList_append_own w hgd s x t ho base e i z size bytes ht hi hz hsize hby hzs hsz v n xs hs hown ad m c news hx hl (hnews ad rfl) h1 h63 hbytes hbase (fun v' w' h1 h2 _ => h v' w' h1 h2)
  | none =>
    obtain ⟨rfl, rfl⟩ := hnone rfl
    have hn : news = [] := List.eq_nil_of_length_eq_zero (by simpa using hl)
    subst hn
    refine wpList_append_own_none hgd s x t ho base e i size ht hi v n xs hs hown hx (h v w (by simpa using hown) ?_)
    exact ⟨rfl, rfl, rfl, Nat.le_refl _, fun _ _ _ => rfl⟩
/-- how many ways have spare left, by their cells -/
def As.leftW (W : World) (a : Addr) (n : Nat) : Nat := ((List.range n).filter fun j => match W.cell? ((a.add (j * 4)).add 3) with | some (.int _ s) => decide (0 ≤ s) | _ => false).length
theorem leftW_eq {W : World} {a : Addr} {g n : Nat} {ws : List As.Way} (h : WaysAt W a g ws) (hn : ws.length = n) : As.leftW W a n = As.left ws := by
  unfold As.leftW As.left
  rw [hn]
  congr 1
  apply List.filter_congr
  intro j hj
  have hj' : j < ws.length := by rw [hn]; exact List.mem_range.1 hj
  have := (h.at j hj') 3 (.int .i64 ws[j].spare) rfl
  rw [this, List.getElem?_eq_getElem hj']
theorem una_mem (S : List As.Way) (j : Nat) : j ∈ As.una S S.length ↔ ∃ hj : j < S.length, S[j].spare < 0 := by
  unfold As.una
  rw [List.mem_filter, List.mem_range]
  constructor
  · rintro ⟨h1, h2⟩
    rw [List.getElem?_eq_getElem h1] at h2
    exact ⟨h1, of_decide_eq_true h2⟩
  · rintro ⟨h1, h2⟩
    rw [List.getElem?_eq_getElem h1]
    exact ⟨h1, decide_eq_true h2⟩
theorem una_nodup (S : List As.Way) (n : Nat) : (As.una S n).Nodup := List.nodup_range.filter _
theorem natC_len (k : Nat) : (natC k).length = 1 := rfl
theorem own_q {W : World} {base : Nat} {e : TypeId} {size : Nat} {v : Value} {n : Nat} {xs : List Value} (h : W.ownsRow base e size v n xs) : ∃ q c, v = .slice q n c ∧ (q = none → n = 0 ∧ c = 0) ∧ (∀ ad, q = some ad → ∀ j u, xs[j]? = some u → W.cell? (ad.add j) = some u) := by
  rcases h.2 with ⟨rfl, rfl⟩ | ⟨g, cap, cur, rfl, _⟩
  · exact ⟨none, 0, rfl, fun _ => ⟨rfl, rfl⟩, fun ad h => by cases h⟩
  · refine ⟨some ⟨g, 0, none⟩, cap, rfl, (fun h => by cases h), (fun ad had => ?_)⟩
    obtain rfl := Option.some.inj had
    exact h.cells rfl
theorem made_bools (m : Nat) : (madeCells (Value.bool false).cells (m * 1)).toList = (List.replicate m false).map Value.bool := by
  apply List.ext_getElem?
  intro i
  simp [madeCells, Value.cells]
  by_cases h : i < m
  · simp [h, Nat.mod_one]
  · simp [h]
theorem own_bools {W : World} {base gw m : Nat} {wl : List Bool} (hl : wl.length = m) (h : W.ownsRow base 4 1 (.slice (some ⟨gw, 0, none⟩) m m) m (wl.map Value.bool)) : BoolsAt W ⟨gw, 0, none⟩ gw wl := by
  rcases h.2 with ⟨h1, _⟩ | ⟨g, cap, cur, hv, hb, hg, hc, hm, hs, ht⟩
  · cases h1
  · injection hv with e1 e2 e3
    injection e1 with e1
    injection e1 with e1
    subst e1 e3
    refine ⟨rfl, ?_⟩
    rw [hg]
    have : cur.toList = wl.map Value.bool := by
      rw [← ht, List.take_of_length_le (by rw [Array.length_toList, hs]; exact Nat.le_refl _)]
    rw [← this]
theorem Try.infoBool : (Try.prog.info? 4).map (fun i => (i.zero, i.size, i.bytes)) = some (some (.bool false), 1, 1) := by kernel_rfl
/-- the outer loop's relation -/
def WOut (w : World) (a aw : Addr) (g gw m : Nat) (S : List As.Way) (V6 : Value) (W : World) : Prop :=
  ∃ (ws : List As.Way) (D late : List Nat), BoolsAt W aw gw (As.wideOf S D m) ∧ WaysAt W a g ws ∧ As.Inv S ws D late ∧ W.ownsRow w.heap.size 3 1 V6 late.length (late.flatMap natC) ∧ V6.ownBlock ≠ some gw ∧ w.grownBy W (some g)
/-- the inner loop's -/
def WIn (w : World) (a : Addr) (g m : Nat) (S : List As.Way) (D late : List Nat) (aw : Addr) (gw B : Nat) (V6 V7 K : Value) (W : World) : Prop :=
  ∃ (i : Nat) (ws : List As.Way) (next : List Nat), K = .int .i64 (i : Int) ∧ i ≤ late.length ∧ As.Inv S ws (D ++ late.take i) (late.drop i ++ next) ∧ WaysAt W a g ws ∧ BoolsAt W aw gw (As.wideOf S (D ++ late.take i) m) ∧ W.ownsRow B 3 1 V7 next.length (next.flatMap natC) ∧ W.ownsRow w.heap.size 3 1 V6 late.length (late.flatMap natC) ∧ w.grownBy W (some g) ∧ B ≤ W.heap.size
set_option maxHeartbeats 8000000 in
set_option maxRecDepth 100000 in
theorem widen_any (a : Addr) (g cl n m : Nat) (S : List As.Way) (w : World) (hn : Hid (S.length = n)) (hb : n ≤ 1000000) (hm : m ≤ 1000000) (hW : Hid (WaysAt w a g S)) (hwin : Hid (As.Win S)) (hit : Hid (∀ j (h : j < S.length), ∃ it : Nat, S[j].item = (it : Int) ∧ it < m)) (hsp : Hid (∀ j (h : j < S.length), -100000000 ≤ S[j].spare ∧ S[j].spare ≤ 100000000)) :
    Calls Try.prog 18 #[.slice (some a) n cl, .int .i64 (m : Int)] w fun e w' => ∃ av ws D, e = .returned (.slice (some av) m m) ∧ As.Inv S ws D [] ∧ SliceC boolC 1 w' (.slice (some av) m m) (As.wideOf S D m) ∧ w.grownBy w' (some g) := by
  obtain ⟨i0, hi, hz0, hz1, hz2⟩ := info_parts Try.infoInt'
  obtain ⟨j0, hj, hy0, hy1, hy2⟩ := info_parts Try.infoBool
  have hgl : g < w.heap.size := by obtain ⟨_, cur, hg, _⟩ := hW.out; exact (Array.getElem?_eq_some_iff.1 hg).1
  have hm0 : (0 : Int) ≤ (m : Int) := by omega
  have hm1 : (m : Int) ≤ 1000000 := by omega
  have C1 : Hid (∀ w' : World, WaysAt w' a g S → Calls Try.prog 34 #[.slice (some a) n cl] w' fun e w2 => ∃ v, e = .returned v ∧ w2.ownsRow w'.heap.size 3 1 v (As.una S n).length ((As.una S n).flatMap natC) ∧ Below w'.heap.size w' w2) := Lib.hid fun w' h => unable_any (some a) cl n S w' hn hb (Lib.hid ⟨some a, cl, by rw [hn.out], fun k hk => ⟨a, rfl, h.at k hk⟩⟩)
  go_enter Try.func18, Try.ntmps18
  go_wp2
  try go_step3
  go_wp2_with (first
    | (at_make; refine wpList_make_full _ rfl _ _ 45 rfl w.heap.size 4 j0 (.bool false) 1 Try.underlying45 hj hy0 hy1 .i64 .i64 _ _ m rfl rfl rfl rfl (by rw [hy2]; omega) (by unfold maxLen; omega) (Nat.le_refl _) ?_; intro w0 hown0 hgrow0; rw [made_bools] at hown0; have HB0 := Lib.hid (own_bools (by simp) hown0); have HG0 := Lib.hid hgrow0; have HW0 := Lib.hid (hW.out.kept hgrow0 (by simp)); clear hown0 hgrow0)
    | (go_at_call 34; refine (C1.out _ HW0.out).mono ?_; rintro e w1 ⟨v6, rfl, hrow1, hb1⟩; have HR1 := Lib.hid hrow1; have HG1 := Lib.hid hb1; clear hrow1 hb1))
  try go_step3
  go_wp2
  have HINV0 : Hid (As.Inv S S [] (As.una S n)) := Lib.hid (As.Inv.start (by rw [← hn.out]; exact una_mem S) (una_nodup S n))
  generalize haw : (⟨w.heap.size, 0, none⟩ : Addr) = aw at HB0 ⊢
  clear haw
  obtain ⟨gw, hgw⟩ : ∃ gw, w.heap.size = gw := ⟨_, rfl⟩
  have HGW : Hid (w.heap.size ≤ gw) := Lib.hid (by omega)
  have HGG : Hid (¬ gw = g) := Lib.hid (by omega)
  rw [hgw] at HB0
  clear hgw
  go_loopw [6] (fun V6 W => WOut w a aw g gw m S V6 W) (fun _ W => As.leftW W a n)
  case atStart =>
    have hg01 := grown_below HG1.out
    refine ⟨S, [], As.una S n, ?_, HW0.out.kept hg01 (by simp), HINV0.out, ownsRow_base HR1.out HG0.out.size, ?_, ?_⟩
    · rw [As.wideOf_nil]; exact HB0.out.kept hg01 (by simp)
    · intro e
      have := own_ge HR1.out _ e
      have := HB0.out.lt
      omega
    · exact grown_more (row := none) (grown_more (row := none) ⟨rfl, rfl, rfl, Nat.le_refl _, fun _ _ _ => rfl⟩ HG0.out (fun j e => by cases e)) hg01 (fun j e => by cases e)
  case round =>
    clear HB0 HG0 HW0 HR1 HG1 HINV0
    obtain ⟨ws, D, late, hBo, hWs, hInv, hrow6, hne6, hG⟩ := hrel
    have hlenS : ws.length = n := hInv.len.trans hn.out
    have HM0 := Lib.hid (leftW_eq hWs hlenS)
    have HI0 := Lib.hid hInv
    have hgwl := hBo.lt
    have h6lt := own_lt hrow6
    have h6ge := own_ge hrow6
    have HBo := Lib.hid hBo
    have HWs := Lib.hid hWs
    have HG := Lib.hid hG
    have HR6 := Lib.hid hrow6
    have HN6 := Lib.hid hne6
    have HL6 := Lib.hid h6lt
    have HE6 := Lib.hid h6ge
    have HGL := Lib.hid hgwl
    have hbd := hInv.bound
    have hlb : late.length ≤ 1000000 := by rw [List.length_append, hn.out] at hbd; omega
    obtain ⟨q6, c6, rfl, -⟩ := own_q hrow6
    obtain ⟨nl, hnl⟩ : ∃ nl, late.length = nl := ⟨_, rfl⟩
    rw [hnl] at hlb
    have HNL := Lib.hid hnl
    rw [hnl] at HR6 HN6 HL6 HE6 ⊢
    clear hBo hWs hG hrow6 hne6 h6lt h6ge hgwl hInv hbd hnl hlenS
    obtain ⟨wo, hwo⟩ : ∃ wo, wo = wr := ⟨_, rfl⟩
    subst hwo
    go_wp2
    go_loopw [7, 16] (fun V7 K W => WIn w a g m S D late aw gw wo.heap.size (.slice q6 nl c6) V7 K W) (fun _ K _ => nl - (intOf K).toNat)
    case atStart => exact ⟨0, ws, [], rfl, Nat.zero_le _, by simpa using HI0.out, HWs.out, by simpa using HBo.out, World.ownsRow_nil _ _ _ _, by rw [HNL.out]; exact HR6.out, HG.out, Nat.le_refl _⟩
    case round =>
      obtain ⟨i, ws1, next, rfl, hil, hInv, hWs, hBo, hrow7, hrow6, hG, hBl⟩ := hrel
      rw [HNL.out] at hil hrow6
      have h7ge := own_ge hrow7
      have H7 : Hid (∀ j, Value.ownBlock _ = some j → wo.heap.size ≤ j) := Lib.hid h7ge
      clear h7ge
      by_cases hlt : i < nl
      · have hiL : i < late.length := by rw [HNL.out]; exact hlt
        have hlt' : (i : Int) < (nl : Int) := by omega
        have hi0 : (0 : Int) ≤ (i : Int) := by omega
        have hdr : late.drop i = late[i] :: late.drop (i + 1) := List.drop_eq_getElem_cons hiL
        rw [hdr, List.cons_append] at hInv
        obtain ⟨k, hk⟩ : ∃ k, late[i] = k := ⟨_, rfl⟩
        rw [hk] at hInv
        have hkS : k < S.length := hInv.lt k (by simp)
        have hkn : k < n := by rw [← hn.out]; exact hkS
        have hlen1 : ws1.length = n := hInv.len.trans hn.out
        have hkw : k < ws1.length := by omega
        obtain ⟨it, hit1, hit2⟩ := hit.out k hkS
        have hst : ws1[k].item = (it : Int) := (hInv.stat k hkS hkw).1.trans hit1
        have hbd := hInv.bound
        have hsp1 : ∀ j (h : j < ws1.length), -1000000000 ≤ ws1[j].spare ∧ ws1[j].spare ≤ 1000000000 := fun j h => by
          have hjS : j < S.length := by rw [← hInv.len]; exact h
          have h1 := hInv.low j hjS h
          have h2 := hsp.out j hjS
          have h3 := hn.out
          simp only [List.length_append] at hbd h1
          omega
        obtain ⟨R, hR⟩ : ∃ R, As.lenRun (it : Int) (k - 1025) (min n (k + 1026) - (k - 1025)) (ws1, []) = R := ⟨_, rfl⟩
        have C2 : Hid (∀ W : World, WaysAt W a g ws1 → Calls Try.prog 35 #[.slice (some a) n cl, .int .i64 (k : Int)] W fun e w' => ∃ q c, e = .returned (.slice q R.2.length c) ∧ (q = none → R.2.length = 0 ∧ c = 0) ∧ (∀ ad, q = some ad → ∀ j u, (R.2.flatMap natC)[j]? = some u → w'.cell? (ad.add j) = some u) ∧ WaysAt w' a g R.1 ∧ W.grownBy w' (some g)) := Lib.hid fun W hWW => by
          refine (lengthen_any a g cl n k ws1 (it : Int) W (Lib.hid hlen1) hb hkn (Lib.hid hWW) (Lib.hid fun _ => hst) (Lib.hid hsp1)).mono ?_
          rintro e w' ⟨v, rfl, hrowv, hWs2, hg2⟩
          rw [hR] at hrowv hWs2
          obtain ⟨q, c, rfl, h1, h2⟩ := own_q hrowv
          exact ⟨q, c, rfl, h1, h2, hWs2, hg2⟩
        have hInv2 := hInv.step hwin.out (fun _ => hst) n hlen1 (k - 1025) (min n (k + 1026) - (k - 1025)) rfl rfl
        rw [hR] at hInv2
        have htk : D ++ late.take (i + 1) = (D ++ late.take i) ++ [k] := by
          rw [List.take_add_one, List.getElem?_eq_getElem hiL, hk]; simp
        have hInv3 : As.Inv S R.1 (D ++ late.take (i + 1)) (late.drop (i + 1) ++ (next ++ R.2)) := by
          rw [htk, ← List.append_assoc]; exact hInv2
        have hbd3 := hInv3.bound
        have hnb : next.length + R.2.length ≤ 1000000 := by
          simp only [List.length_append] at hbd3
          rw [hn.out] at hbd3
          omega
        have hwide : As.wideOf S (D ++ late.take (i + 1)) m = (As.wideOf S (D ++ late.take i) m).set it true := by
          rw [htk]; exact As.wideOf_snoc S _ m k it hkS hit1
        obtain ⟨q', c', e', hnn, hcell⟩ := own_q hrow6
        injection e' with e1 e2 e3
        subst e1
        obtain ⟨al, hal⟩ : ∃ al, q6 = some al := by
          cases q6 with
          | none => have := hnn rfl; omega
          | some al => exact ⟨al, rfl⟩
        subst hal
        have x0 : wr.cell? (al.add i) = some (.int .i64 (k : Int)) := by
          have hf := flatC_get natC 1 natC_len late i hiL 0 (.int .i64 (k : Int)) (by rw [hk]; rfl)
          rw [Nat.mul_one, Nat.add_zero] at hf
          exact hcell al rfl i _ hf
        have z0 : wr.cell? (a.add (k * 4)) = some (.int .i64 (it : Int)) := by
          have h := (hWs.at k hkw) 0 (.int .i64 (it : Int)) (by rw [← hst]; rfl)
          rw [add_zero'] at h
          exact h
        have y0 := hBo.cell it (by rw [As.wideOf_len]; exact hit2)
        have y1 := hBo.open' it
        have hg1 := hBo.grown it (.bool true)
        have hBo1 := hBo.set it
        rw [← hwide] at hBo1
        have b1 : (0 : Int) ≤ (k : Int) := by omega
        have b2 : (k : Int) < (n : Int) := by omega
        have b3 : (0 : Int) ≤ (it : Int) := by omega
        have b4 : (it : Int) < (m : Int) := by omega
        have HWx := Lib.hid (hWs.kept hg1 (fun e => HGG.out (Option.some.inj e).symm))
        have HG1 := Lib.hid hg1
        have HBx := Lib.hid hBo1
        have HI3 := Lib.hid hInv3
        have HGw := Lib.hid hG
        have HR6x := Lib.hid (hrow6.kept hg1 (Or.inr HN6.out))
        have HNB := Lib.hid hnb
        have HBL := Lib.hid hBl
        have h7ne : ∀ j, Value.ownBlock _ = some j → _ := H7.out
        have HR7x := Lib.hid (hrow7.kept hg1 (Or.inr (fun e => by have := H7.out gw e; have := HGL.out; omega)))
        clear hInv hInv2 hInv3 hWs hBo hBo1 hrow7 hrow6 hG hBl hg1 hwide htk hbd hbd3 hnb hcell hnn e2 e3 hdr hk hst hsp1 hR hlen1 hit1 hkS hkw hiL h7ne
        generalize (As.wideOf S (D ++ late.take i) m)[it]'_ = bv at y0
        go_wp2_with (first
          | (go_at_call 35; refine (C2.out _ HWx.out).mono ?_; rintro e w2 ⟨qv, cv, rfl, hqn, hqc, hWs2, hg2⟩; have HQN := Lib.hid hqn; have HQC := Lib.hid hqc; have HW2 := Lib.hid hWs2; have HG2 := Lib.hid hg2; clear hqn hqc hWs2 hg2)
          | (at_builtin; refine wpList_append_row rfl _ _ 46 rfl wo.heap.size 3 i0 (.int .i64 0) 1 8 Try.underlying46 hi hz0 hz1 hz2 rfl (by decide) _ _ _ rfl (HR7x.out.kept HG2.out (Or.inr (fun e => by have := H7.out g e; have := HGw.out.size; have := HG.out.size; omega))) qv R.2.length cv (R.2.flatMap natC) rfl (by rw [flatC_len natC 1 natC_len]) HQN.out HQC.out (by intro u hu; rw [List.mem_flatMap] at hu; obtain ⟨x, _, hx⟩ := hu; simp [natC] at hx; subst hx; rfl) (by have := HNB.out; unfold maxLen; omega) (by have := HNB.out; omega) (by have := HBL.out; have := HG1.out.size; have := HG2.out.size; omega) ?_; intro v' w3 hown' hgrow3))
        have hw3 : ∀ j, u7.ownBlock = some j → wo.heap.size ≤ j := H7.out
        refine ⟨⟨i + 1, R.1, next ++ R.2, by simp, by rw [HNL.out]; omega, HI3.out, HW2.out.kept hgrow3 (fun e => by have := hw3 g e.symm; have := HG.out.size; omega), (HBx.out.kept HG2.out (fun e => HGG.out (Option.some.inj e))).kept hgrow3 (fun e => by have := hw3 gw e.symm; have := HGL.out; omega), ?_, ?_, ?_, ?_⟩, by simp [intOf]; omega⟩
        · rw [List.length_append, List.flatMap_append]; exact hown'
        · rw [HNL.out]
          refine (HR6x.out.kept HG2.out (Or.inr (fun e => by have := HE6.out g e; omega))).kept hgrow3 (Or.inr (fun e => ?_))
          have h1 := HL6.out al.block rfl
          have h2 := hw3 al.block e.symm
          omega
        · exact grown_more (grown_more (grown_more HGw.out HG1.out (fun j e => Or.inl (by have := Option.some.inj e; have := HGW.out; omega))) HG2.out (fun j e => Or.inr (Option.some.inj e).symm)) hgrow3 (fun j e => Or.inl (by have := hw3 j e; have := HG.out.size; omega))
        · have := HBL.out; have := HG1.out.size; have := HG2.out.size; have := hgrow3.size; omega
      · obtain rfl : i = nl := by omega
        have htk : late.take i = late := List.take_of_length_le (by rw [HNL.out]; exact Nat.le_refl _)
        have hdr : late.drop i = [] := List.drop_eq_nil_of_le (by rw [HNL.out]; exact Nat.le_refl _)
        rw [htk, hdr, List.nil_append] at hInv
        rw [htk] at hBo
        have hge : ¬ (i : Int) < (i : Int) := by omega
        have hlen1 : ws1.length = n := hInv.len.trans hn.out
        have HLW := Lib.hid (leftW_eq hWs hlen1)
        obtain ⟨q7, c7, rfl, -⟩ := own_q hrow7
        have HI := Lib.hid hInv
        have HB := Lib.hid hBo
        have HW1 := Lib.hid hWs
        have HGx := Lib.hid hG
        have HR7 := Lib.hid hrow7
        have HBL := Lib.hid hBl
        clear hInv hBo hWs hG hrow7 hrow6 hBl htk hdr hlen1
        by_cases hnx : next = []
        · subst hnx
          go_wp2
          go_ret
          exact ⟨aw, ws1, D ++ late, rfl, HI.out, by have := HB.out.slice m; rw [As.wideOf_len] at this; exact this, HGx.out⟩
        · have hnl : ¬ next.length = 0 := fun h => hnx (List.eq_nil_of_length_eq_zero h)
          have hnl' : ((next.length : Int) == 0) = false := by simp; exact hnx
          go_wp2
          refine ⟨⟨ws1, D ++ late, next, HB.out, HW1.out, HI.out, ownsRow_base HR7.out HG.out.size, (fun e => by have := H7.out gw e; have := HGL.out; omega), HGx.out⟩, ?_⟩
          rw [HLW.out, HM0.out]
          have e1 := HI.out.left
          have e2 := HI0.out.left
          simp only [List.length_append] at e1 e2
          omega
set_option maxHeartbeats 8000000 in
set_option maxRecDepth 100000 in
theorem widen_nil (p : Option Addr) (cl m : Nat) (w : World) (hm : m ≤ 1000000) :
    Calls Try.prog 18 #[.slice p 0 cl, .int .i64 (m : Int)] w fun e w' => ∃ av, e = .returned (.slice (some av) m m) ∧ SliceC boolC 1 w' (.slice (some av) m m) (List.replicate m false) ∧ Below w.heap.size w w' := by
  obtain ⟨j0, hj, hy0, hy1, hy2⟩ := info_parts Try.infoBool
  have C1 : Hid (∀ w' : World, Calls Try.prog 34 #[.slice p 0 cl] w' fun e w2 => ∃ q c, e = .returned (.slice q 0 c) ∧ Below w'.heap.size w' w2) := Lib.hid fun w' => by
    refine (unable_any p cl 0 [] w' (Lib.hid rfl) (by decide) (Lib.hid ⟨p, cl, rfl, fun k hk => absurd hk (Nat.not_lt_zero _)⟩)).mono ?_
    rintro e w2 ⟨v, rfl, hrow, hb⟩
    obtain ⟨q, c, rfl, -⟩ := own_q hrow
    exact ⟨q, c, rfl, hb⟩
  go_enter Try.func18, Try.ntmps18
  go_wp2
  try go_step3
  go_wp2_with (first
    | (at_make; refine wpList_make_full _ rfl _ _ 45 rfl w.heap.size 4 j0 (.bool false) 1 Try.underlying45 hj hy0 hy1 .i64 .i64 _ _ m rfl rfl rfl rfl (by rw [hy2]; omega) (by unfold maxLen; omega) (Nat.le_refl _) ?_; intro w0 hown0 hgrow0; rw [made_bools] at hown0; have HB0 := Lib.hid (own_bools (by simp) hown0); have HB1 := Lib.hid ((Below.refl w.heap.size w).grown hgrow0 (Nat.le_refl _) (fun k e => by cases e)); clear hown0 hgrow0)
    | (go_at_call 34; refine (C1.out _).mono ?_; rintro e w1 ⟨q6, c6, rfl, hb1⟩; have HB2 := Lib.hid (HB1.out.trans (hb1.mono HB1.out.size)); have HBo := Lib.hid (HB0.out.kept (grown_below hb1) (by simp)); clear hb1))
  try go_step3
  go_wp2
  go_loopw [6] (fun V6 W => V6 = .slice q6 0 c6 ∧ W = w1) (fun _ W => 0)
  case atStart => exact ⟨rfl, rfl⟩
  case round =>
    obtain ⟨rfl, rfl⟩ := hrel
    go_wp2
    go_loopw [7, 16] (fun V7 K W => V7 = .slice none 0 0 ∧ K = .int .i64 0 ∧ W = wr) (fun _ K _ => 0)
    case atStart => exact ⟨rfl, rfl, rfl⟩
    case round =>
      obtain ⟨rfl, rfl, rfl⟩ := hrel
      go_wp2
      rw [Exit.noGoto_ret]
      go_ret
      exact ⟨⟨w.heap.size, 0, none⟩, rfl, by have := HBo.out.slice m; rw [List.length_replicate] at this; exact this, HB2.out⟩
end Go.Proofs.Ytplfpaffjaldoaa
