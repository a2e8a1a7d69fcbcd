/-
The reader's small functions: a token of a kind, a nest that opens and one that ends.
-/
import Derived.Test.YtbnhegipdfkdgaaDoorP15a
namespace Go.Proofs.YtbnhegipdfkdgaaDoor
open Go.ChangeShapes Go.WideShapes Go.ChangeAt Go.RowKit
set_option linter.unusedVariables false
set_option linter.unusedSimpArgs false

theorem Sx.some_no {L : List Lx.Tok} {k : Int} {σ : Sx.R} (hL : Sx.Ok L) (hi : σ.at' < L.length) (hk : k ≠ 0) (h : (Sx.pk L σ).kind ≠ k) : Sx.some L k σ = (Sx.noTok, Sx.wrong L 10 σ) := by
  unfold Sx.some
  by_cases he : σ.err = 0
  · rw [if_neg (by simpa using he), if_pos (by rw [← Sx.pk_tk he]; exact h)]
  · rw [if_pos he, Sx.wrong_no he]
theorem Sx.some_is {L : List Lx.Tok} {k : Int} {σ : Sx.R} (hL : Sx.Ok L) (hi : σ.at' < L.length) (hk : k ≠ 0) (h : (Sx.pk L σ).kind = k) : σ.err = 0 ∧ Sx.some L k σ = (Sx.pk L σ, { σ with at' := σ.at' + 1 }) := by
  have he : σ.err = 0 := by
    apply Classical.byContradiction
    intro he
    exact hk (h.symm.trans (Sx.end_tok hL.ends hL.clean hi he).1)
  refine ⟨he, ?_⟩
  unfold Sx.some
  rw [if_neg (by simpa using he), if_neg (by rw [← Sx.pk_tk he]; simpa using h), Sx.pk_tk he]
set_option maxHeartbeats 8000000 in
set_option maxRecDepth 100000 in
theorem take_fn (b : Nat) (L : List Lx.Tok) (hL : Sx.Ok L) (σ : Sx.R) (k : Int) (hk : k ≠ 0) : Fn 29 #[.pointer (some ⟨b, 0, none⟩), .int .i64 k] [rd b L σ]
    fun e J => e = .returned (.agg #[.int .i64 ((Sx.some L k σ).1).kind, .int .i64 ((Sx.some L k σ).1).pos, .int .i64 ((Sx.some L k σ).1).num, .string (Lx.S ((Sx.some L k σ).1).text)]) ∧ J = [rd b L (Sx.some L k σ).2] := by
  intro w P hP h0
  have HS := Lib.hid (St.start hP h0)
  have hat := HS.out.at'
  have C1 := Lib.hid (next_fn b L σ)
  have C2 := Lib.hid (fail_fn b L σ 10 (by decide))
  clear h0 hP
  by_cases h : (Sx.pk L σ).kind = k
  · obtain ⟨he, hso⟩ := Sx.some_is hL hat hk h
    have hl := ((Sx.le_some hL.ends k hk σ).2.2.1 hat)
    rw [hso] at hl ⊢
    have HX := Lib.hid he
    have HA := Lib.hid hl
    clear hL he hl hso hat
    go_enter Tryd.func29, Tryd.ntmps29
    go_wp2_with (first
      | (refine wpl_alloc HS.out _ rfl tokZ ?_; intro b1 w1 HS1)
      | (go_at_call 17; refine (HS1.out.call1 C1.out).mono ?_; rintro e w2 ⟨J, ⟨rfl, rfl⟩, hs⟩; simp only [List.cons_append, List.nil_append] at hs; have HS2 := Lib.hid hs; clear hs)
      | (refine wpl_alloc HS2.out _ rfl tokZ ?_; intro b2 w3 HS3)
      | (refine wpl_storeS HS3.out 1 rfl rfl tokT rfl (fitsT _ _ _ _) ?_; intro w4 hs4; have HS4 := Lib.hid (show St _ _ _ (_ :: _ :: _ :: []) from hs4.out); clear hs4; obtain ⟨a, cap, c, m, e, p, hr, hs3⟩ := HS4.out.rdOpen; have HR := Lib.hid hr; clear hr; obtain ⟨n, q, hn, hq, hb, hi⟩ := left_len HR.out; have hw := wrap_small n hb; have hle : (n : Int) ≤ (n : Int) + 1 := (by omega); have h0 : (0 : Int) ≤ (n : Int) := Int.natCast_nonneg n; have hne : ¬ (q + (n + 1) = n) := (by omega); rw [rdC, hn, hq] at hs3; have HO := Lib.hid hs3; clear hs3; have hne1 : ¬ (q + (n + 1) = 1) := (by have h1 : c = σ.at' := (by rw [HR.out.hc]; unfold Sx.cur; rw [if_pos HX.out]); have h2 : σ.at' + 1 < L.length := HA.out; omega); have hle1 : (1 : Int) ≤ (n : Int) + 1 := (by omega))
      | (refine wpl_load HS4.out 1 rfl rfl intO rfl ?_)
      | (refine wpl_load HO.out 0 rfl rfl toksO rfl ?_)
      | (refine wpl_store HO.out 0 rfl rfl toksO (of_decide_eq_true rfl) rfl ?_; intro w5 hs5; have HS5 := Lib.hid (show St _ _ _ (_ :: _ :: _ :: _ :: []) from hs5.out); clear hs5)
      | (refine wpl_loadS HS5.out 2 rfl rfl tokT rfl ?_)
      | (refine wpl_storeS HS5.out 3 rfl rfl tokT rfl (fitsT _ _ _ _) ?_; intro w6 HS6))
    refine bp_cell HS6.out 3 tokT rfl rfl rfl rfl rfl ⟨_, ⟨by rw [h], rfl⟩, St.rdClose (rd_next HR.out HX.out ?_) ?_⟩
    · have h1 : c = σ.at' := by rw [HR.out.hc]; unfold Sx.cur; rw [if_pos HX.out]
      have h2 : σ.at' + 1 < L.length := HA.out
      omega
    · have hx : St P w w6 [.row b 50 #[Value.slice (some { block := (a.add (c * 4)).block, off := (a.add (c * 4)).off + 4, spot := none }) n (q + n), .int .i64 m, .int .i64 e, .int .i64 p], .hp (toksHp a L)] := HS6.out.sel [0, 0] rfl
      rw [next_slice hq hi] at hx
      exact hx
  · have hso := Sx.some_no hL hat hk h
    rw [hso]
    clear hL hso hat
    go_enter Tryd.func29, Tryd.ntmps29
    go_wp2_with (first
      | (refine wpl_alloc HS.out _ rfl tokZ ?_; intro b1 w1 HS1)
      | (go_at_call 17; refine (HS1.out.call1 C1.out).mono ?_; rintro e w2 ⟨J, ⟨rfl, rfl⟩, hs⟩; simp only [List.cons_append, List.nil_append] at hs; have HS2 := Lib.hid hs; clear hs)
      | (refine wpl_alloc HS2.out _ rfl tokZ ?_; intro b2 w3 HS3)
      | (go_at_call 45; refine (HS4.out.call1 C2.out).mono ?_; rintro e w5 ⟨J, ⟨rfl, rfl⟩, hs⟩; simp only [List.cons_append, List.nil_append] at hs; have HS5 := Lib.hid hs; clear hs)
      | (refine wpl_storeS HS3.out 1 rfl rfl tokT rfl (fitsT _ _ _ _) ?_; intro w4 hs4; have HS4 := Lib.hid (show St _ _ _ (_ :: _ :: _ :: []) from hs4.out); clear hs4)
      | (refine wpl_load HS4.out 1 rfl rfl intO rfl ?_)
      | (refine wpl_storeS HS5.out 2 rfl rfl tokT rfl (fitsT 0 0 0 ⟨#[]⟩) ?_; intro w6 HS6))
    refine bp_cell HS6.out 2 tokT rfl rfl rfl rfl rfl ⟨_, ⟨rfl, rfl⟩, HS6.out.sel [0] rfl⟩
theorem rd_more {a : Addr} {cap c : Nat} {L : List Lx.Tok} {σ : Sx.R} {m e p : Int} (h : RdAt a cap L σ c m e p) (hl : σ.err = 0 → σ.opn ≤ 63) : RdAt a cap L { σ with opn := σ.opn + 1 } c (wrap64 (m + 1)) e p :=
  ⟨h.hcap, h.hbig, h.hat, h.hc, h.he, h.hp, h.hz, fun h0 => by
    obtain ⟨h1, h2, h3⟩ := h.hm h0
    have h4 := hl h0
    have h5 : wrap64 (m + 1) = m + 1 := by simp only [wrap64]; omega
    rw [h5]
    refine ⟨?_, ?_, ?_⟩
    · show m + 1 = σ.opn + 1; omega
    · omega
    · omega⟩
theorem rd_less {a : Addr} {cap c : Nat} {L : List Lx.Tok} {σ : Sx.R} {m e p : Int} (h : RdAt a cap L σ c m e p) (hl : σ.err = 0 → 1 ≤ σ.opn) : RdAt a cap L { σ with opn := σ.opn - 1 } c (wrap64 (m - 1)) e p :=
  ⟨h.hcap, h.hbig, h.hat, h.hc, h.he, h.hp, h.hz, fun h0 => by
    obtain ⟨h1, h2, h3⟩ := h.hm h0
    have h4 := hl h0
    have h5 : wrap64 (m - 1) = m - 1 := by simp only [wrap64]; omega
    rw [h5]
    refine ⟨?_, ?_, ?_⟩
    · show m - 1 = σ.opn - 1; omega
    · omega
    · omega⟩
theorem Sx.eat_sees {L : List Lx.Tok} {s : List UInt8} {σ : Sx.R} (h : (Sx.eat L s σ).err = 0) : Sx.sees L s σ = true := by
  unfold Sx.eat at h
  unfold Sx.sees
  by_cases he : σ.err = 0
  · rw [if_neg (by simpa using he)] at h
    by_cases ht : Sx.text L σ = s
    · simp [he, ht]
    · rw [if_pos ht] at h
      exact absurd h (Sx.wrong_err (by decide))
  · rw [if_pos he] at h; exact absurd h he
theorem Sx.eat_no {L : List Lx.Tok} {s : List UInt8} {σ : Sx.R} (h : σ.err ≠ 0) : Sx.eat L s σ = σ := by unfold Sx.eat; rw [if_pos h]
/-- a state of which the program's number of nests is not yet told -/
theorem Sx.op_keep {L : List Lx.Tok} (s : List UInt8) (σ : Sx.R) : (Sx.eat L s σ).opn = σ.opn := by
  unfold Sx.eat Sx.wrong
  split
  · rfl
  · split
    · split <;> rfl
    · rfl
set_option maxHeartbeats 8000000 in
set_option maxRecDepth 100000 in
theorem open_fn (b : Nat) (L : List Lx.Tok) (hL : Sx.Ok L) (σ : Sx.R) (s : List UInt8) (hs : Sx.kw s = true) : Fn 46 #[.pointer (some ⟨b, 0, none⟩), .string (Lx.S s)] [rd b L σ]
    fun e J => e = .returned (.tuple #[]) ∧ J = [rd b L (Sx.nest L s σ)] := by
  intro w P hP h0
  have HS := Lib.hid (St.start hP h0)
  have C1 := Lib.hid (is_fn b L hL σ s hs)
  have C2 := Lib.hid (fail_fn b L σ 11 (by decide))
  by_cases h : Sx.sees L s σ = true
  · by_cases h64 : 64 ≤ σ.opn
    · have hn : Sx.nest L s σ = { Sx.eat L s (Sx.wrong L 11 σ) with opn := (Sx.eat L s (Sx.wrong L 11 σ)).opn + 1 } := by
        unfold Sx.nest; rw [h, decide_eq_true h64]; rfl
      have C3 := Lib.hid (want_fn b L hL (Sx.wrong L 11 σ) s hs)
      have hw : (Sx.eat L s (Sx.wrong L 11 σ)).err ≠ 0 := by rw [Sx.eat_no (Sx.wrong_err (by decide))]; exact Sx.wrong_err (by decide)
      rw [h] at C1
      rw [hn]
      have HW := Lib.hid hw
      have HX := Lib.hid (Sx.sees_text h).1
      have H64 := Lib.hid h64
      clear h0 hP hs hL hw hn h h64
      go_enter Tryd.func46, Tryd.ntmps46
      go_wp2_with (first
        | (go_at_call 47; refine (HS.out.call1 C1.out).mono ?_; rintro e w1 ⟨J, ⟨rfl, rfl⟩, hs⟩; simp only [List.cons_append, List.nil_append] at hs; have HS1 := Lib.hid hs; clear hs; obtain ⟨a, cap, c, m, e, p, hr, hs3⟩ := HS1.out.rdOpen; have HR := Lib.hid hr; have HO := Lib.hid hs3; clear hs3 hr; have c1 : w1.cell? ⟨b, 1, none⟩ = some (.int .i64 m) := HO.out.cell 0 rfl 1; have hm64 : m = 64 := (by have h1 := HR.out.hm HX.out; have h2 := H64.out; omega))
        | (go_at_call 45; refine (HS1.out.call1 C2.out).mono ?_; rintro e w2 ⟨J, ⟨rfl, rfl⟩, hs⟩; simp only [List.cons_append, List.nil_append] at hs; have HS2 := Lib.hid hs; clear hs)
        | (go_at_call 28; refine (HS2.out.call1 C3.out).mono ?_; rintro e w3 ⟨J, ⟨rfl, rfl⟩, hs⟩; simp only [List.cons_append, List.nil_append] at hs; have HS3 := Lib.hid hs; clear hs; obtain ⟨a2, cap2, c2, m2, e2, p2, hr, hs3⟩ := HS3.out.rdOpen; have HR2 := Lib.hid hr; have HO2 := Lib.hid hs3; clear hs3 hr)
        | (refine wpl_load HO2.out 0 rfl rfl intO rfl ?_)
        | (refine wpl_store HO2.out 0 rfl rfl intO (of_decide_eq_true rfl) rfl ?_; intro w9 hs5; have HS9 := Lib.hid (show St _ _ _ [.row b 50 (rdC a2 cap2 L c2 (wrap64 (m2 + 1)) e2 p2), .hp (toksHp a2 L)] from hs5.out); clear hs5))
      try simp only [Exit.inBlock, Exit.then]
      refine bodyPost_end (results_none rfl _ _ _) rfl ⟨_, ⟨rfl, rfl⟩, HS9.out.rdClose (rd_more HR2.out (fun h => absurd h HW.out))⟩
    · have hn : Sx.nest L s σ = { Sx.eat L s σ with opn := (Sx.eat L s σ).opn + 1 } := by
        unfold Sx.nest; rw [h, decide_eq_false h64]; rfl
      have C3 := Lib.hid (want_fn b L hL σ s hs)
      rw [h] at C1
      rw [hn]
      have hw : (Sx.eat L s σ).err = 0 → (Sx.eat L s σ).opn ≤ 63 := fun _ => by rw [Sx.op_keep]; omega
      have HW := Lib.hid hw
      have HX := Lib.hid (Sx.sees_text h).1
      have H64 := Lib.hid h64
      clear h0 hP hs hL hw hn h h64
      go_enter Tryd.func46, Tryd.ntmps46
      go_wp2_with (first
        | (go_at_call 47; refine (HS.out.call1 C1.out).mono ?_; rintro e w1 ⟨J, ⟨rfl, rfl⟩, hs⟩; simp only [List.cons_append, List.nil_append] at hs; have HS1 := Lib.hid hs; clear hs; obtain ⟨a, cap, c, m, e, p, hr, hs3⟩ := HS1.out.rdOpen; have HR := Lib.hid hr; have HO := Lib.hid hs3; clear hs3 hr; have c1 : w1.cell? ⟨b, 1, none⟩ = some (.int .i64 m) := HO.out.cell 0 rfl 1; have hm64 : ¬ m = 64 := (by have h1 := HR.out.hm HX.out; have h2 := H64.out; omega))
        | (go_at_call 28; refine (HS1.out.call1 C3.out).mono ?_; rintro e w3 ⟨J, ⟨rfl, rfl⟩, hs⟩; simp only [List.cons_append, List.nil_append] at hs; have HS3 := Lib.hid hs; clear hs; obtain ⟨a2, cap2, c2, m2, e2, p2, hr, hs3⟩ := HS3.out.rdOpen; have HR2 := Lib.hid hr; have HO2 := Lib.hid hs3; clear hs3 hr)
        | (refine wpl_load HO2.out 0 rfl rfl intO rfl ?_)
        | (refine wpl_store HO2.out 0 rfl rfl intO (of_decide_eq_true rfl) rfl ?_; intro w9 hs5; have HS9 := Lib.hid (show St _ _ _ [.row b 50 (rdC a2 cap2 L c2 (wrap64 (m2 + 1)) e2 p2), .hp (toksHp a2 L)] from hs5.out); clear hs5))
      try simp only [Exit.inBlock, Exit.then]
      refine bodyPost_end (results_none rfl _ _ _) rfl ⟨_, ⟨rfl, rfl⟩, HS9.out.rdClose (rd_more HR2.out HW.out)⟩
  · have hf : Sx.sees L s σ = false := by simpa using h
    have hn : Sx.nest L s σ = { Sx.eat L s σ with opn := (Sx.eat L s σ).opn + 1 } := by
      unfold Sx.nest; rw [hf]; rfl
    have C3 := Lib.hid (want_fn b L hL σ s hs)
    rw [hf] at C1
    rw [hn]
    have hw : (Sx.eat L s σ).err = 0 → (Sx.eat L s σ).opn ≤ 63 := fun h1 => absurd (Sx.eat_sees h1) h
    have HW := Lib.hid hw
    clear h0 hP hs hL hw hn h hf
    go_enter Tryd.func46, Tryd.ntmps46
    go_wp2_with (first
      | (go_at_call 47; refine (HS.out.call1 C1.out).mono ?_; rintro e w1 ⟨J, ⟨rfl, rfl⟩, hs⟩; simp only [List.cons_append, List.nil_append] at hs; have HS1 := Lib.hid hs; clear hs)
      | (go_at_call 28; refine (HS1.out.call1 C3.out).mono ?_; rintro e w3 ⟨J, ⟨rfl, rfl⟩, hs⟩; simp only [List.cons_append, List.nil_append] at hs; have HS3 := Lib.hid hs; clear hs; obtain ⟨a2, cap2, c2, m2, e2, p2, hr, hs3⟩ := HS3.out.rdOpen; have HR2 := Lib.hid hr; have HO2 := Lib.hid hs3; clear hs3 hr)
      | (refine wpl_load HO2.out 0 rfl rfl intO rfl ?_)
      | (refine wpl_store HO2.out 0 rfl rfl intO (of_decide_eq_true rfl) rfl ?_; intro w9 hs5; have HS9 := Lib.hid (show St _ _ _ [.row b 50 (rdC a2 cap2 L c2 (wrap64 (m2 + 1)) e2 p2), .hp (toksHp a2 L)] from hs5.out); clear hs5))
    try simp only [Exit.inBlock, Exit.then]
    refine bodyPost_end (results_none rfl _ _ _) rfl ⟨_, ⟨rfl, rfl⟩, HS9.out.rdClose (rd_more HR2.out HW.out)⟩
set_option maxHeartbeats 8000000 in
set_option maxRecDepth 100000 in
theorem shut_fn (b : Nat) (L : List Lx.Tok) (hL : Sx.Ok L) (σ : Sx.R) (s : List UInt8) (hs : Sx.kw s = true) (ho : (Sx.eat L s σ).err = 0 → 1 ≤ σ.opn) : Fn 48 #[.pointer (some ⟨b, 0, none⟩), .string (Lx.S s)] [rd b L σ]
    fun e J => e = .returned (.tuple #[]) ∧ J = [rd b L (Sx.unnest L s σ)] := by
  intro w P hP h0
  have HS := Lib.hid (St.start hP h0)
  have C3 := Lib.hid (want_fn b L hL σ s hs)
  have hn : Sx.unnest L s σ = { Sx.eat L s σ with opn := (Sx.eat L s σ).opn - 1 } := rfl
  have hw : (Sx.eat L s σ).err = 0 → 1 ≤ (Sx.eat L s σ).opn := fun h1 => by rw [Sx.op_keep]; exact ho h1
  have HW := Lib.hid hw
  rw [hn]
  clear h0 hP hs hL hw hn ho
  go_enter Tryd.func48, Tryd.ntmps48
  go_wp2_with (first
    | (go_at_call 28; refine (HS.out.call1 C3.out).mono ?_; rintro e w3 ⟨J, ⟨rfl, rfl⟩, hs⟩; simp only [List.cons_append, List.nil_append] at hs; have HS3 := Lib.hid hs; clear hs; obtain ⟨a2, cap2, c2, m2, e2, p2, hr, hs3⟩ := HS3.out.rdOpen; have HR2 := Lib.hid hr; have HO2 := Lib.hid hs3; clear hs3 hr)
    | (refine wpl_load HO2.out 0 rfl rfl intO rfl ?_)
    | (refine wpl_store HO2.out 0 rfl rfl intO (of_decide_eq_true rfl) rfl ?_; intro w9 hs5; have HS9 := Lib.hid (show St _ _ _ [.row b 50 (rdC a2 cap2 L c2 (wrap64 (m2 - 1)) e2 p2), .hp (toksHp a2 L)] from hs5.out); clear hs5))
  try simp only [Exit.inBlock, Exit.then]
  refine bodyPost_end (results_none rfl _ _ _) rfl ⟨_, ⟨rfl, rfl⟩, HS9.out.rdClose (rd_less HR2.out HW.out)⟩
end Go.Proofs.YtbnhegipdfkdgaaDoor
