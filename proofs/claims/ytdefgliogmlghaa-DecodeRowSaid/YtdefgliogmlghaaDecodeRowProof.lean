/-
  Law DecodeRow: Instructions' bytes, one behind the other, are decoded as them; cut within one they are not.
  Conditions: none but those of the given row.
-/
import Derived.Test.YtdefgliogmlghaaRows
import Derived.Test.YtdefgliogmlghaaDecodeG
import Derived.Test.YtdefgliogmlghaaDecodeW
import Derived.Test.YtdefgliogmlghaaDecodeH2
import Derived.Test.YtdefgliogmlghaaThumbE
import Derived.WalkKit
import Derived.ProofKit
import Derived.OpenShut
import Derived.ShutString
import Derived.ChangeOld
import Derived.Below
import Derived.LoopN
import Derived.SizedLaws
namespace Go.Proofs.Ytdefgliogmlghaa.decodeRow
open Go.ChangeShapes Go.WideShapes Go.ChangeAt Go.RowKit
open Go.ChangeMaps (open_string shut_string)
set_option linter.unusedVariables false

theorem own : ownKnob Try.prog.godebug = none := by kernel_rfl
theorem laidOut : laidOutB Try.prog = true := by kernel_rfl

theorem own_slice {W : World} {base : Nat} {e : TypeId} {size : Nat} {v : Value} {n : Nat} {xs : List Value} (h : W.ownsRow base e size v n xs) : ∃ q m c, v = .slice q m c := by
  rcases h.2 with ⟨rfl, _⟩ | ⟨g, cap, cur, rfl, _⟩ <;> exact ⟨_, _, _, rfl⟩
theorem Try.infoInt : (Try.prog.info? 3).map (fun i => (i.zero, i.size, i.bytes)) = some (some (.int .i64 0), 1, 8) := by kernel_rfl
theorem enc_lit (op rd rn rm ra imm cond : Int) (wide : Bool) (B : ByteArray) (c : Int) (w : World) (h : Hid (Th.encS ⟨op, rd, rn, rm, ra, imm, cond, wide⟩ = B ∧ Th.check ⟨op, rd, rn, rm, ra, imm, cond, wide⟩ = c)) :
    Calls Try.prog 19 #[.agg #[.int .i64 op, .int .i64 rd, .int .i64 rn, .int .i64 rm, .int .i64 ra, .int .i64 imm, .int .i64 cond, .bool wide]] w fun e w' => e = .returned (.tuple #[.string B, .int .i64 c]) ∧ Below w.heap.size w w' := by
  have := encode_any op rd rn rm ra imm cond wide w
  rw [h.out.1, h.out.2] at this
  exact this
/-- where instructions end -/
def endAt (L : List Th.Ins) (j : Nat) : Nat := (De.encAll (L.take (j + 1))).size
def endsC (L : List Th.Ins) (k : Nat) : List Value := (List.range k).map fun j => Value.int .i64 (endAt L j : Int)
theorem endsC_succ (L : List Th.Ins) (k : Nat) : endsC L (k + 1) = endsC L k ++ [Value.int .i64 (endAt L k : Int)] := by
  unfold endsC; rw [List.range_succ, List.map_append]; rfl
/-- is a place an end, or the beginning? -/
def wh (L : List Th.Ins) (c k : Nat) : Bool := (c == 0) || (List.range k).any fun j => endAt L j == c
theorem wh_succ (L : List Th.Ins) (c k : Nat) : wh L c (k + 1) = (wh L c k || (endAt L k == c)) := by
  unfold wh; rw [List.range_succ, List.any_append, Bool.or_assoc]; simp
theorem wh_ok (L : List Th.Ins) (h : De.good L) (c k : Nat) (hw : wh L c k = true) : De.allE ((De.encAll L).extract 0 c) = 0 := by
  unfold wh at hw
  rw [Bool.or_eq_true] at hw
  rcases hw with hw | hw
  · have : c = 0 := by simpa using hw
    subst this
    unfold De.allE
    rw [De.steps_nil _ (by rw [ByteArray.size_extract]; omega)]
    rfl
  · rw [List.any_eq_true] at hw
    obtain ⟨j, _, hj⟩ := hw
    have hj' : endAt L j = c := by simpa using hj
    rw [← hj']
    unfold endAt
    rw [De.take_enc]
    exact De.allE_enc _ (De.good_take h _)
/-- how far the instructions have been put one behind the other -/
structure Upto (L : List Th.Ins) (k : Nat) (S : ByteArray) : Prop where
  le : k ≤ L.length
  bytes : S = De.encAll (L.take k)
  good : De.good (L.take k)
theorem Upto.next {L : List Th.Ins} {k : Nat} {S : ByteArray} (h : Upto L k S) (hk : k < L.length) (hc : Th.check L[k] = 0) : Upto L (k + 1) (S ++ Th.encS L[k]) := by
  have e : L.take (k + 1) = L.take k ++ [L[k]] := by rw [List.take_add_one, List.getElem?_eq_getElem hk]; rfl
  refine ⟨hk, by rw [e, De.encAll_app, h.bytes], fun i hi => ?_⟩
  rw [e, List.mem_append] at hi
  rcases hi with hi | hi
  · exact h.good i hi
  · rw [List.mem_singleton] at hi; rw [hi]; exact hc
theorem Upto.len {L : List Th.Ins} {k : Nat} {S : ByteArray} (h : Upto L k S) : S.size ≤ k * 4 := by
  have := De.encAll_len _ h.good
  rw [h.bytes]
  rw [List.length_take] at this
  have h2 := h.le
  have h3 : min k L.length = k := by omega
  rw [h3] at this
  exact this
theorem ends_at {W : World} {base : Nat} {v : Value} {k : Nat} {L : List Th.Ins} (h : W.ownsRow base 3 1 v k (endsC L k)) : ∃ qe ce, v = .slice qe k ce ∧ ∀ j, j < k → ∃ g, qe = some ⟨g, 0, none⟩ ∧ W.cell? ⟨g, j, none⟩ = some (.int .i64 (endAt L j : Int)) := by
  rcases h.2 with ⟨rfl, rfl⟩ | ⟨g, cap, cur, rfl, hb, hg, hc, hm, hs, ht⟩
  · exact ⟨none, 0, rfl, fun j hj => absurd hj (Nat.not_lt_zero _)⟩
  · refine ⟨_, _, rfl, fun j hj => ⟨g, rfl, ?_⟩⟩
    have h1 : (endsC L k)[j]? = some (.int .i64 (endAt L j : Int)) := by
      unfold endsC
      rw [List.getElem?_map, List.getElem?_range hj]
      rfl
    rw [← ht, Nat.mul_one, List.getElem?_take_of_lt hj] at h1
    simp only [World.cell?, hg]
    simpa using h1
theorem nbeq (a b : Nat) : ((a : Int) == (b : Int)) = (a == b) := by
  rw [Bool.eq_iff_iff, beq_iff_eq, beq_iff_eq]; omega
theorem cut_nat (a1 : Int) (n : Nat) (hn : n ≤ 1000) : ∃ cu : Nat, wrap64 ((IntKind.u64.wrap a1).tmod ((n : Int) + 1)) = (cu : Int) ∧ cu ≤ n := by
  have h0 : 0 ≤ IntKind.u64.wrap a1 := by rw [IntKind.wrap_u64]; omega
  generalize IntKind.u64.wrap a1 = X at h0
  have h1 : X.tmod ((n : Int) + 1) = X % ((n : Int) + 1) := Int.tmod_eq_emod_of_nonneg h0
  have h2 := Int.emod_nonneg X (show (n : Int) + 1 ≠ 0 by omega)
  have h3 := Int.emod_lt_of_pos X (show (0 : Int) < (n : Int) + 1 by omega)
  rw [h1]
  generalize X % ((n : Int) + 1) = r at h2 h3
  refine ⟨r.toNat, ?_, by omega⟩
  unfold wrap64
  omega
set_option maxHeartbeats 4000000 in
set_option maxRecDepth 100000 in
theorem row_long (v : Value) (p : Option Addr) (c n : Nat) (a1 : Int) (w : World) (h : (60 : Int) < (n : Int)) :
    Calls Try.prog 7 #[.slice p n c, .int .i64 a1] w fun e w' => e = .returned (.bool true) ∧ Below w.heap.size w w' := by
  go_enter Try.func7, Try.ntmps7
  go_wp2_with (go_at_call 15; refine (lives3_any _).mono ?_; rintro r w5 ⟨rfl, hb5⟩)
  go_ret
  exact ⟨rfl, hb5⟩
set_option maxHeartbeats 8000000 in
set_option maxRecDepth 100000 in
theorem row_short (p : Option Addr) (c n : Nat) (L : List Th.Ins) (a1 : Int) (w1 : (Lit.int .i64 a1).wf = true) (w : World) (hn : Hid (L.length = n)) (h : n ≤ 60) (hS : Hid (SliceAt w (.slice p n c) L)) :
    Calls Try.prog 7 #[.slice p n c, .int .i64 a1] w fun e w' => e = .returned (.bool true) ∧ Below w.heap.size w w' := by
  obtain ⟨i0, hi, hz0, hz1, hz2⟩ := info_parts Try.infoInt
  have h' : (n : Int) ≤ 60 := by omega
  go_enter Try.func7, Try.ntmps7
  go_wp2
  go_loopw [5, 6, 7] (fun S E K wr => ∃ (k : Nat) (B : ByteArray), S = .string B ∧ K = .int .i64 (k : Int) ∧ Upto L k B ∧ wr.ownsRow w.heap.size 3 1 E k (endsC L k) ∧ Below w.heap.size w wr) (fun _ _ K _ => n - (intOf K).toNat)
  case atStart => exact ⟨0, _, rfl, rfl, ⟨Nat.zero_le _, rfl, fun i hi => by cases hi⟩, World.ownsRow_nil _ _ _ _, Below.refl _ _⟩
  case round =>
    obtain ⟨k, B, rfl, rfl, hU, hrow, hB⟩ := hrel
    have hkn : k ≤ n := by have := hU.le; have := hn.out; omega
    have hBl := hU.len
    by_cases hlt : k < n
    · have hkL : k < L.length := by rw [hn.out]; exact hlt
      have hlt' : (k : Int) < (n : Int) := by omega
      have hk0 : (0 : Int) ≤ (k : Int) := by omega
      obtain ⟨p', c', e', hat⟩ := hS.out.kept hB
      obtain ⟨a, hpa, hIn⟩ := hat k hkL
      injection e' with ep en ec
      rw [hpa] at ep
      subst ep
      rcases hi' : L[k] with ⟨op, rd, rn, rm, ra, imm, cond, wide⟩
      rw [hi'] at hIn
      have x0 : wr.cell? (a.add (k * 8)) = some (.int .i64 op) := by have h := hIn 0 _ rfl; rw [add_zero'] at h; exact h
      have x1 : wr.cell? ⟨(a.add (k * 8)).block, (a.add (k * 8)).off + 1, none⟩ = some (.int .i64 rd) := hIn 1 _ rfl
      have x2 : wr.cell? ⟨(a.add (k * 8)).block, (a.add (k * 8)).off + 2, none⟩ = some (.int .i64 rn) := hIn 2 _ rfl
      have x3 : wr.cell? ⟨(a.add (k * 8)).block, (a.add (k * 8)).off + 3, none⟩ = some (.int .i64 rm) := hIn 3 _ rfl
      have x4 : wr.cell? ⟨(a.add (k * 8)).block, (a.add (k * 8)).off + 4, none⟩ = some (.int .i64 ra) := hIn 4 _ rfl
      have x5 : wr.cell? ⟨(a.add (k * 8)).block, (a.add (k * 8)).off + 5, none⟩ = some (.int .i64 imm) := hIn 5 _ rfl
      have x6 : wr.cell? ⟨(a.add (k * 8)).block, (a.add (k * 8)).off + 6, none⟩ = some (.int .i64 cond) := hIn 6 _ rfl
      have x7 : wr.cell? ⟨(a.add (k * 8)).block, (a.add (k * 8)).off + 7, none⟩ = some (.bool wide) := hIn 7 _ rfl
      have hcx := hi'
      clear hIn hat hpa ec en
      by_cases hck : Th.check ⟨op, rd, rn, rm, ra, imm, cond, wide⟩ = 0
      · obtain ⟨C, hC⟩ : ∃ C, Th.encS ⟨op, rd, rn, rm, ra, imm, cond, wide⟩ = C := ⟨_, rfl⟩
        have HE : Hid (Th.encS ⟨op, rd, rn, rm, ra, imm, cond, wide⟩ = C ∧ Th.check ⟨op, rd, rn, rm, ra, imm, cond, wide⟩ = 0) := Lib.hid ⟨hC, hck⟩
        have hN := hU.next hkL (by rw [hi']; exact hck)
        rw [hi', hC] at hN
        have HN := Lib.hid hN
        have hCl := De.enc_len _ hck
        rw [hC] at hCl
        have hcat : ¬ 9223372036854775807 < B.size + C.size := by omega
        have hlen2 : (B ++ C).size = B.size + C.size := ByteArray.size_append
        have hEA : endAt L k = B.size + C.size := by unfold endAt; rw [← hlen2, hN.bytes]
        have HEA := Lib.hid hEA
        clear hU hN hC hck hi' hcx hEA hlen2
        go_wp2_with (first | (go_at_call 19; refine (enc_lit _ _ _ _ _ _ _ _ _ _ _ HE).mono ?_; rintro e w2 ⟨rfl, hb2⟩; have hB2 := hB.trans (hb2.mono hB.size); have hrow2 := hrow.kept (grown_below hb2) (Classical.em _)) | (at_builtin; refine wpList_append_own _ rfl _ _ 42 rfl w.heap.size 3 i0 (.int .i64 0) 1 8 Try.underlying42 hi hz0 hz1 hz2 rfl (by decide) _ _ _ rfl (hrow2.alloc _) ⟨w2.heap.size, 0, none⟩ 1 1 [.int .i64 ((B.size : Int) + (C.size : Int))] rfl rfl (cell_one_new _ _ _) (by simp [Value.oneCell']) (by unfold maxLen; omega) (by omega) (by have := hB2.size; simp at this ⊢; omega) ?_; intro v' w3 hown' hgrow3 hnil3))
        refine ⟨⟨k + 1, _, rfl, by simp, HN.out, by rw [endsC_succ, HEA.out]; simpa using hown', (hB2.alloc hB2.size _).grown hgrow3 (by have := hB2.size; simp at this ⊢; omega) (own_ge hrow)⟩, by simp [intOf]; omega⟩
      · obtain ⟨E, hE⟩ : ∃ E, Th.check ⟨op, rd, rn, rm, ra, imm, cond, wide⟩ = E := ⟨_, rfl⟩
        have HE : Hid (Th.encS ⟨op, rd, rn, rm, ra, imm, cond, wide⟩ = _ ∧ Th.check ⟨op, rd, rn, rm, ra, imm, cond, wide⟩ = E) := Lib.hid ⟨rfl, hE⟩
        have hE1 : (E != 0) = true := by rw [← hE]; simpa using hck
        clear hU hck hi' hcx hE
        go_wp2_with (first | (go_at_call 19; refine (enc_lit _ _ _ _ _ _ _ _ _ _ _ HE).mono ?_; rintro e w2 ⟨rfl, hb2⟩; have hB2 := hB.trans (hb2.mono hB.size)) | (go_at_call 15; refine (lives3_any _).mono ?_; rintro r w5 ⟨rfl, hb5⟩))
        go_ret
        exact ⟨rfl, hB2.trans (hb5.mono hB2.size)⟩
    · have hge : ¬ (k : Int) < (n : Int) := by omega
      obtain rfl : k = n := by omega
      have hLk : L.length = k := hn.out
      have hg : De.good L := by have := hU.good; rw [← hLk, List.take_length] at this; exact this
      have hBy : B = De.encAll L := by have := hU.bytes; rw [← hLk, List.take_length] at this; exact this
      have HBy := Lib.hid hBy
      have HG := Lib.hid hg
      have H1 : Hid (∀ w : World, Calls Try.prog 16 #[.string B] w fun e W' => ∃ q m c, e = .returned (.tuple #[.slice q m c, .int .i64 0]) ∧ W'.ownsRow w.heap.size 23 8 (.slice q m c) L.length (insCs L) ∧ Below w.heap.size w W') := Lib.hid fun w => by
        refine (all_any B (by omega) w).mono ?_
        rintro e W' ⟨v, rfl, hrow, hb⟩
        obtain ⟨q, m, c, rfl⟩ := own_slice hrow
        rw [hBy, De.allE_enc L hg, De.allL_enc L hg] at *
        exact ⟨q, m, c, rfl, hrow, hb⟩
      have HS1 := Lib.hid (hS.out.kept hB)
      obtain ⟨qe, ce, rfl, -⟩ := ends_at hrow
      clear hU hBy hg hLk
      go_wp2_with (first | (go_at_call 16; refine (H1.out _).mono ?_; rintro e w2 ⟨q1, m1, c1, rfl, hrow1, hb1⟩; have HR1 := Lib.hid (slice_own hrow1); have HS2 := Lib.hid (HS1.out.kept hb1); have HB2 := Lib.hid (hB.trans (hb1.mono hB.size)); have hrow2 := hrow.kept (grown_below hb1) (Classical.em _); clear hrow1 hb1) | (go_at_call 18; refine (same_any _ _ L _ (by have := hn.out; omega) HR1.out HS2.out).mono ?_; rintro e w3 ⟨rfl, hb3⟩; have HB3 := Lib.hid (HB2.out.trans (hb3.mono HB2.out.size)); have hrow3 := hrow2.kept (grown_below hb3) (Classical.em _); clear hb3))
      obtain ⟨cu, hcu, hcl⟩ := cut_nat a1 B.size (by omega)
      rw [hcu]
      have hen : ∀ j, j < k → ∃ g, qe = some ⟨g, 0, none⟩ ∧ w3.cell? ⟨g, j, none⟩ = some (.int .i64 (endAt L j : Int)) := by
        obtain ⟨qe', ce', e', h'⟩ := ends_at hrow3
        injection e' with e1 e2 e3
        subst e1
        exact h'
      have HEN := Lib.hid hen
      have HWO := Lib.hid (fun j => wh_ok L HG.out cu j)
      have HODD := Lib.hid (De.odd_err L HG.out cu (by rw [← HBy.out]; exact hcl))
      rw [← HBy.out] at HWO HODD
      clear hcu hen hrow hrow2 hrow3 HR1 HS1 HS2
      go_loopw [12, 13] (fun WH K wr => ∃ j : Nat, WH = .bool (wh L cu j) ∧ K = .int .i64 (j : Int) ∧ j ≤ k ∧ wr = w3) (fun _ K _ => k - (intOf K).toNat)
      case atStart => exact ⟨0, congrArg Value.bool ((nbeq cu 0).trans (by unfold wh; simp)), rfl, Nat.zero_le _, rfl⟩
      case round =>
        obtain ⟨j, rfl, rfl, hjk, rfl⟩ := hrel
        by_cases hjl : j < k
        · have hjl' : (j : Int) < (k : Int) := by omega
          obtain ⟨g, rfl, hcell⟩ := HEN.out j hjl
          have HWS := Lib.hid (wh_succ L cu j)
          cases hwj : wh L cu j with
          | true =>
            rw [hwj] at HWS
            clear hcell
            go_wp2
            exact ⟨⟨j + 1, by rw [HWS.out]; rfl, by simp, by omega, trivial⟩, by simp [intOf]; omega⟩
          | false =>
            rw [hwj] at HWS
            go_wp2
            exact ⟨⟨j + 1, by rw [HWS.out, nbeq]; rfl, by simp, by omega, trivial⟩, by simp [intOf]; omega⟩
        · have hjg : ¬ (j : Int) < (k : Int) := by omega
          obtain ⟨G, hG⟩ : ∃ G, De.allE (B.extract 0 cu) = G := ⟨_, rfl⟩
          have H2 : Hid (∀ w : World, Calls Try.prog 16 #[.string (B.extract 0 cu)] w fun e W' => ∃ q m c, e = .returned (.tuple #[.slice q m c, .int .i64 G]) ∧ Below w.heap.size w W') := Lib.hid fun w => by
            refine (all_any (B.extract 0 cu) (by rw [ByteArray.size_extract]; omega) w).mono ?_
            rintro e W' ⟨v, rfl, hrow, hb⟩
            obtain ⟨q, m, c, rfl⟩ := own_slice hrow
            rw [hG]
            exact ⟨q, m, c, rfl, hb⟩
          have hw0 := HWO.out j
          have ho3 := HODD.out
          rw [hG] at hw0 ho3
          have hcl' : (cu : Int) ≤ (B.size : Int) := by omega
          generalize wh L cu j = b at hw0
          have htm : (cu : Int).tmod 2 = (cu : Int) % 2 := Int.tmod_eq_emod_of_nonneg (by omega)
          clear HEN HWO HODD hG H1 HG HBy
          by_cases hpar : cu % 2 = 1
          · obtain rfl := ho3 hpar
            have hbf : b = false := by cases b with | false => rfl | true => exact absurd (hw0 rfl) (by decide)
            subst hbf
            have hp2 : ((cu : Int) % 2 == 0) = false := by rw [beq_eq_false_iff_ne]; omega
            have hp3 : ((cu : Int).tmod 2 == 0) = false := by rw [htm]; exact hp2
            clear hw0 ho3
            go_wp2_with (first | (go_at_call 16; refine (H2.out _).mono ?_; rintro e w4 ⟨q4, m4, c4, rfl, hb4⟩; have HB4 := Lib.hid (HB3.out.trans (hb4.mono HB3.out.size)); clear hb4) | (go_at_call 15; refine (lives3_any _).mono ?_; rintro r w5 ⟨rfl, hb5⟩))
            go_ret
            exact ⟨rfl, HB4.out.trans (hb5.mono HB4.out.size)⟩
          · have hp2 : ((cu : Int) % 2 == 0) = true := by rw [beq_iff_eq]; omega
            have hp3 : ((cu : Int).tmod 2 == 0) = true := by rw [htm]; exact hp2
            cases b with
            | true =>
              obtain rfl := hw0 rfl
              clear ho3
              go_wp2_with (first | (go_at_call 16; refine (H2.out _).mono ?_; rintro e w4 ⟨q4, m4, c4, rfl, hb4⟩; have HB4 := Lib.hid (HB3.out.trans (hb4.mono HB3.out.size)); clear hb4) | (go_at_call 15; refine (lives3_any _).mono ?_; rintro r w5 ⟨rfl, hb5⟩))
              go_ret
              exact ⟨rfl, HB4.out.trans (hb5.mono HB4.out.size)⟩
            | false =>
              clear hw0 ho3
              go_wp2_with (first | (go_at_call 16; refine (H2.out _).mono ?_; rintro e w4 ⟨q4, m4, c4, rfl, hb4⟩; have HB4 := Lib.hid (HB3.out.trans (hb4.mono HB3.out.size)); clear hb4) | (go_at_call 15; refine (lives3_any _).mono ?_; rintro r w5 ⟨rfl, hb5⟩))
              all_goals
                go_ret
                exact ⟨rfl, HB4.out.trans (hb5.mono HB4.out.size)⟩
theorem walk (p0v : Option Addr) (c0v : Nat) (L0 : List Th.Ins) (a1 : Int) (w1 : (Lit.int .i64 a1).wf = true) (w : World) (s0 : SliceAt w (.slice p0v L0.length c0v) L0) :
    Calls Try.prog 7 #[.slice p0v L0.length c0v, .int .i64 a1] w fun e w' => e = .returned (.bool true) ∧ Below w.heap.size w w' := by
  by_cases h : 60 < L0.length
  · exact row_long (.bool false) p0v c0v L0.length a1 w (by omega)
  · exact row_short p0v c0v L0.length L0 a1 w1 w (Lib.hid rfl) (by omega) (Lib.hid s0)

set_option maxRecDepth 100000 in
theorem lifted (os : Os) (started : os.Started) (H : Type) (enc : TypeId × Value → H) :
    ReturnsInHanded {} Try.checked os 7 .any (Rows.decodeRowSpec.pre6 enc Try.prog Try.f7 Rows.decodeRowRow.domain false) (Rows.decodeRowSpec.post enc Try.prog Try.f7 false true false false) := by
  refine returnsInHanded_of_change (C := Try.checked) own started (by kernel_rfl) Try.func7
    (ChangeSpec.witness6 (enc := enc) (C := Try.checked) false ⟨#[], #[.slice none 0 0, .int .i64 0], []⟩ 8 (by kernel_rfl) (by kernel_rfl) (by kernel_rfl) (by kernel_rfl)) ?_
  intro W base args ds gs before hval0 hW hcnd _
  have hval : ∀ (j : Nat) t v, Try.f7.params[j]? = some t → args[j]? = some v → Value.okWide Try.prog W .any base t v := hval0
  have hW' := hW
  obtain ⟨p, q, hA0, hV, rfl, hfz, hnd⟩ := hW
  have hA : DataW.TrodAll enc Try.prog W 0 (fun _ => true) true Try.f7.params.toList args.toList ds p := hA0
  rw [Try.params7] at hA hval
  obtain ⟨v0, vs0, d0, ds0, p0, q0, hargs, rfl, rfl, h0, r0⟩ := trodAll_cons hA
  obtain ⟨v1, vs1, d1, ds1, p1, q1, rfl, rfl, rfl, h1, r1⟩ := trodAll_cons r0
  obtain ⟨rfl, rfl, rfl⟩ := trodAll_nil r1
  obtain rfl : args = #[v0, v1] := by cases args; simp_all
  obtain ⟨rfl, rfl⟩ := trodVars_none hV
  have k0 := h0
  have lt0 : ∀ x ∈ p0, x.block < W.heap.size := by obtain ⟨m, hm⟩ := k0; exact DataW.trod_lt m _ _ _ hm
  obtain ⟨L0, hL0⟩ := open_inss (hval 0 32 v0 rfl rfl) h0
  have s0 := hL0
  obtain ⟨p0v, c0v, rfl, -⟩ := hL0
  obtain ⟨a1, rfl, rfl, rfl, w1⟩ := open_int Try.underlying3 (hval 1 3 v1 rfl rfl) h1
  clear hA0 hval0
  refine (walk p0v c0v L0 a1 w1 W s0).mono fun e W' ⟨he, bel⟩ => ?_
  subst he
  exact ⟨_, rfl, _, _, _, [], _, [], hW', trodAll_mk1 (shut_bool Try.underlying4 _), (trodAll_cons_mk (Below.trod laidOut (by kernel_rfl) (of_decide_eq_true (by kernel_rfl)) k0 bel lt0) (trodAll_cons_mk (shut_int Try.underlying3 w1) trodAll_mk0)), rfl, bel.frame _, fun h => by cases h⟩

theorem over : Rows.decodeRowRow.holds Try.pinned (OpenSpec.ofChange Rows.decodeRowSpec) :=
  OpenClaim.holds_of_wide 7 Try.f7 rfl rfl rfl rfl rfl rfl rfl ⟨rfl, rfl, rfl, rfl, rfl⟩ rfl rfl rfl rfl rfl (by kernel_rfl) Try.func7 (by kernel_rfl)
    (of_decide_eq_true (by kernel_rfl)) (by unfold Func.isWrapper; first | (rw [if_pos (by decide +kernel)]; kernel_rfl) | (rw [if_neg (by decide +kernel)]; exact ⟨rfl, rfl⟩))
    (fun os started H enc _ => lifted os started H enc)

/-- the statement -/
theorem proved : Rows.DecodeRowSaid := over
#print axioms proved
end Go.Proofs.Ytdefgliogmlghaa.decodeRow
