/-
  Package asm: what write returns.
-/
import Derived.StillTailTactics
import Derived.Test.YtplfpaffjaldoaaAsmY
namespace Go.Proofs.Ytplfpaffjaldoaa
open Go.ChangeShapes Go.WideShapes Go.ChangeAt Go.RowKit
set_option linter.unusedVariables false
set_option linter.unusedSimpArgs false

/-- an item's instruction, and all items' bytes -/
def As.insAt (at' : List Int) (wl : List Bool) (f : Int → Option Nat) (k : Nat) (x : As.It) : Th.Ins := if x.kind == 2 then ⟨x.ins.op, 0, 0, 0, 0, As.imm at' k ((f x.label).getD 0), x.ins.cond, As.wd wl k⟩ else x.ins
def As.byt (L : List As.It) (at' : List Int) (wl : List Bool) (f : Int → Option Nat) (k : Nat) : List UInt8 := (List.range k).flatMap fun j => match L[j]? with | some x => if x.kind == 1 then [] else (Th.encS (As.insAt at' wl f j x)).data.toList | none => []
theorem byt_succ (L : List As.It) (at' : List Int) (wl : List Bool) (f : Int → Option Nat) (k : Nat) (hk : k < L.length) : As.byt L at' wl f (k + 1) = As.byt L at' wl f k ++ (if L[k].kind == 1 then [] else (Th.encS (As.insAt at' wl f k L[k])).data.toList) := by
  unfold As.byt
  rw [List.range_succ, List.flatMap_append, List.flatMap_cons, List.flatMap_nil, List.append_nil, List.getElem?_eq_getElem hk]
/-- a builder of the call's own: fresh, or with bytes -/
def BRel (W : World) (b : Nat) (l : List UInt8) : Prop :=
  (l = [] ∧ W.heap[b]? = some (.cells #[.pointer none, .slice none 0 0] 87 (0, 0))) ∨ (l ≠ [] ∧ BuildAt b b (.pointer (some ⟨b, 0, none⟩)) (Lib.byteCells l) W)
theorem BRel.at' {W : World} {b : Nat} {l : List UInt8} (h : BRel W b l) : ∃ p : Value, (p = .pointer none ∨ p = .pointer (some ⟨b, 0, none⟩)) ∧ BuildAt b b p (Lib.byteCells l) W := by
  rcases h with ⟨rfl, h⟩ | ⟨_, h⟩
  · exact ⟨_, Or.inl rfl, Nat.le_refl _, _, h, World.ownsRow_nil _ _ _ _, by simp [Value.ownBlock]⟩
  · exact ⟨_, Or.inr rfl, h⟩
theorem BRel.lt {W : World} {b : Nat} {l : List UInt8} (h : BRel W b l) : b < W.heap.size := by
  rcases h with ⟨_, h⟩ | ⟨_, h⟩
  · exact (Array.getElem?_eq_some_iff.1 h).1
  · exact h.lt
theorem BRel.kept {W W' : World} {b : Nat} {l : List UInt8} (h : BRel W b l) (hb : Below W.heap.size W W') : BRel W' b l := by
  have hlt := h.lt
  rcases h with ⟨h0, h⟩ | ⟨h0, hB, v, hbk, hown, hne⟩
  · exact Or.inl ⟨h0, (hb.block b hlt).trans h⟩
  · exact Or.inr ⟨h0, hB, v, (hb.block b hlt).trans hbk, hown.kept (grown_below hb) (Classical.em _), hne⟩
theorem BRel.string {W : World} {b : Nat} {l : List UInt8} (h : BRel W b l) :
    Calls Try.prog 39 #[.pointer (some ⟨b, 0, none⟩)] W fun e w' => e = .returned (.string ⟨l.toArray⟩) ∧ Below b W w' := by
  rcases h with ⟨rfl, h⟩ | ⟨h0, h⟩
  · exact bstring_nil b b _ W h
  · exact bstring_some b b l W _ h h0
theorem BRel.write {W : World} {b : Nat} {l : List UInt8} (h : BRel W b l) (s : ByteArray) (hs : 0 < s.size) (hlen : l.length + s.size ≤ 16777216) :
    Calls Try.prog 38 #[.pointer (some ⟨b, 0, none⟩), .string s] W fun e w' => e = .returned (.tuple #[.int .i64 s.size, .nilIface]) ∧ BRel w' b (l ++ s.data.toList) ∧ Below b W w' := by
  have hlt := h.lt
  obtain ⟨p, hp, hb⟩ := h.at'
  refine (wstring_any b b (Lib.byteCells l) s W p hp hb (by rw [Lib.byteCells_length]; exact hlen) (by omega)).mono ?_
  rintro e w' ⟨rfl, h1, h2⟩
  refine ⟨rfl, Or.inr ⟨?_, ?_⟩, h2⟩
  · intro e
    have h2 := (List.append_eq_nil_iff.1 e).2
    have h3 : s.size = 0 := by
      have e2 : s.data.toList.length = 0 := by rw [h2]; rfl
      rw [Array.length_toList] at e2
      exact e2
    omega
  · rw [Lib.byteCells_append]; exact h1
theorem enc_lit (op rd rn rm ra imm cond : Int) (wide : Bool) (s : ByteArray) (w : World) (h : Hid (Th.encS ⟨op, rd, rn, rm, ra, imm, cond, wide⟩ = s)) (hc : Hid (Th.check ⟨op, rd, rn, rm, ra, imm, cond, wide⟩ = 0)) :
    Calls Try.prog 37 #[.agg #[.int .i64 op, .int .i64 rd, .int .i64 rn, .int .i64 rm, .int .i64 ra, .int .i64 imm, .int .i64 cond, .bool wide]] w fun e w' => e = .returned (.tuple #[.string s, .int .i64 0]) ∧ Below w.heap.size w w' := by
  have := encode_any op rd rn rm ra imm cond wide w
  rw [h.out, hc.out] at this
  exact this
theorem enc_bd (i : Th.Ins) (h : Th.check i = 0) : 0 < (Th.encS i).size ∧ (Th.encS i).size ≤ 4 := by
  have h1 := De.enc_size i h
  rcases Th.size_num i h with ⟨h2, _⟩ | ⟨h2, _⟩ <;> omega
theorem byt_len (L : List As.It) (at' : List Int) (wl : List Bool) (f : Int → Option Nat) (k : Nat) (hk : k ≤ L.length) : (As.byt L at' wl f k).length ≤ 4 * k := by
  induction k with
  | zero => simp [As.byt]
  | succ k ih =>
    rw [byt_succ L at' wl f k (by omega), List.length_append]
    refine Nat.le_trans (Nat.add_le_add (ih (by omega)) (?_ : _ ≤ 4)) (by omega)
    split
    · exact Nat.zero_le _
    · rw [Array.length_toList]
      show (Th.encS _).size ≤ 4
      by_cases hc : Th.check (As.insAt at' wl f k L[k]) = 0
      · exact (enc_bd _ hc).2
      · unfold Th.encS; rw [if_neg hc]; decide
theorem below_set8 {B : Nat} {w0 w : World} (h : Below B w0 w) (b : Nat) (hb : B ≤ b) (v0 v1 v2 v3 v4 v5 v6 v7 : Value) :
    Below B w0 ((((((((w.setCell ⟨b, 0, none⟩ v0).setCell ⟨b, 1, none⟩ v1).setCell ⟨b, 2, none⟩ v2).setCell ⟨b, 3, none⟩ v3).setCell ⟨b, 4, none⟩ v4).setCell ⟨b, 5, none⟩ v5).setCell ⟨b, 6, none⟩ v6).setCell ⟨b, 7, none⟩ v7) :=
  (((((((h.setCell (p := ⟨b, 0, none⟩) hb v0).setCell (p := ⟨b, 1, none⟩) hb v1).setCell (p := ⟨b, 2, none⟩) hb v2).setCell (p := ⟨b, 3, none⟩) hb v3).setCell (p := ⟨b, 4, none⟩) hb v4).setCell (p := ⟨b, 5, none⟩) hb v5).setCell (p := ⟨b, 6, none⟩) hb v6).setCell (p := ⟨b, 7, none⟩) hb v7
theorem below_on {B : Nat} {w0 w w' : World} (h : Below B w0 w) (hb : Below w.heap.size w w') (hs : B ≤ w.heap.size) : Below B w0 w' := h.trans (hb.mono hs)
set_option maxHeartbeats 16000000 in
set_option maxRecDepth 100000 in
theorem awrite_any (pl : Option Addr) (cl n bm nm : Nat) (aa ww : Addr) (ca cw : Nat) (L : List As.It) (at' : List Int) (wl : List Bool) (D : DataW Unit) (f : Int → Option Nat) (w : World) (hn : Hid (L.length = n)) (hb : n ≤ 1000000) (hL : Hid (SliceC itC 10 w (.slice pl n cl) L)) (hW : Hid (As.wf L))
    (hA : Hid (SliceC intC 1 w (.slice (some aa) (n + 1) ca) at')) (hal : Hid (at'.length = n + 1)) (hab : Hid (∀ j, -100000000 ≤ at'.getD j 0 ∧ at'.getD j 0 ≤ 100000000))
    (hwl : Hid (SliceC boolC 1 w (.slice (some ww) n cw) wl)) (hwn : Hid (wl.length = n))
    (hown : Hid (w.ownsMap Try.prog 3 (plainElem Try.prog 3) bm nm D)) (hM : Hid (As.MapOf D f)) (hf : Hid (∀ l j, f l = some j → j < n))
    (hok : Hid (∀ k (hk : k < L.length), L[k].kind ≠ 1 → Th.check (As.insAt at' wl f k L[k]) = 0)) :
    Calls Try.prog 20 #[.slice pl n cl, .map (some bm), .slice (some aa) (n + 1) ca, .slice (some ww) n cw] w fun e w' => e = .returned (.string ⟨(As.byt L at' wl f n).toArray⟩) ∧ Below w.heap.size w w' := by
  obtain ⟨R, hR⟩ : ∃ R, As.byt L at' wl f n = R := ⟨_, rfl⟩
  rw [hR]
  have HR := Lib.hid hR
  clear hR
  go_enter Try.func20, Try.ntmps20
  go_wp2
  have HBR : Hid (BRel (w.alloc (.cells #[.pointer none, .slice none 0 0] 87)) w.heap.size []) := Lib.hid (Or.inl ⟨rfl, by rw [heap_alloc_new]⟩)
  have HB0 : Hid (Below w.heap.size w (w.alloc (.cells #[.pointer none, .slice none 0 0] 87))) := Lib.hid ((Below.refl _ _).alloc (Nat.le_refl _) _)
  go_loopw [17] (fun K wr => ∃ k : Nat, K = .int .i64 (k : Int) ∧ k ≤ n ∧ BRel wr w.heap.size (As.byt L at' wl f k) ∧ Below w.heap.size w wr) (fun K _ => n - (intOf K).toNat)
  case atStart => exact ⟨0, rfl, Nat.zero_le _, HBR.out, HB0.out⟩
  case round =>
    clear HBR HB0
    obtain ⟨k, rfl, hk, hbr, hB⟩ := hrel
    by_cases hlt : k < n
    · have hkL : k < L.length := by rw [hn.out]; exact hlt
      have hlt' : (k : Int) < (n : Int) := by omega
      have hk0 : (0 : Int) ≤ (k : Int) := by omega
      have hps := byt_succ L at' wl f k hkL
      have hpl := byt_len L at' wl f k (by omega)
      obtain ⟨p', c', e', hat⟩ := hL.out.kept hB
      obtain ⟨a, hpa, hOn⟩ := hat k hkL
      injection e' with ep en ec
      rw [hpa] at ep
      subst ep
      have hwf := hW.out k hkL
      have hokk := hok.out k hkL
      rcases hx : L[k] with ⟨kind, label, ⟨op, rd, rn, rm, ra, imm, cond, wide⟩⟩
      rw [hx] at hOn hps hwf hokk
      dsimp only at hps hwf hokk
      obtain ⟨x0, x1, x2, x3, x4, x5, x6, x7, x8, x9⟩ := ItAt.of hOn
      obtain ⟨bl, hbl⟩ : ∃ bl, As.byt L at' wl f k = bl := ⟨_, rfl⟩
      rw [hbl] at hbr hps hpl
      have HPS := Lib.hid hps
      have HBR := Lib.hid hbr
      have HB := Lib.hid hB
      have HPL := Lib.hid hpl
      have HOK := Lib.hid hokk
      clear hOn hat hpa ec en hx hps hbr hB hbl hpl hokk
      by_cases hk1 : kind = 1
      · subst hk1
        have HP2 : Hid (As.byt L at' wl f (k + 1) = bl) := Lib.hid (by rw [HPS.out, if_pos (by rfl), List.append_nil])
        clear HPS HOK
        go_wp2
        have hb2 : Below wr.heap.size wr ((wr.alloc (.cells #[.int .i64 1, .int .i64 label, .int .i64 op, .int .i64 rd, .int .i64 rn, .int .i64 rm, .int .i64 ra, .int .i64 imm, .int .i64 cond, .bool wide] 41)).alloc (.cells #[.int .i64 op, .int .i64 rd, .int .i64 rn, .int .i64 rm, .int .i64 ra, .int .i64 imm, .int .i64 cond, .bool wide] 39)) := by go_grown
        exact ⟨⟨k + 1, by simp, by omega, by rw [HP2.out]; exact HBR.out.kept hb2, HB.out.trans (hb2.mono HB.out.size)⟩, by simp [intOf]; omega⟩
      · by_cases hk2 : kind = 2
        · subst hk2
          obtain ⟨to_, hto⟩ : ∃ t, (f label).getD 0 = t := ⟨_, rfl⟩
          have hton : to_ < n := by
            rw [← hto]
            cases h : f label with
            | none => show 0 < n; omega
            | some j => exact hf.out _ _ h
          obtain ⟨T, hT⟩ : ∃ T, at'.getD to_ 0 = T := ⟨_, rfl⟩
          obtain ⟨K, hK⟩ : ∃ K, at'.getD k 0 = K := ⟨_, rfl⟩
          obtain ⟨wb, hwb⟩ : ∃ wb, As.wd wl k = wb := ⟨_, rfl⟩
          have hins : As.insAt at' wl f k ⟨2, label, ⟨op, rd, rn, rm, ra, imm, cond, wide⟩⟩ = ⟨op, 0, 0, 0, 0, T - K - 4, cond, wb⟩ := by
            unfold As.insAt As.imm
            rw [if_pos (by rfl)]
            dsimp only
            rw [hto, hT, hK, hwb]
          rw [hins] at HPS HOK
          obtain ⟨s, hs⟩ : ∃ s, Th.encS ⟨op, 0, 0, 0, 0, T - K - 4, cond, wb⟩ = s := ⟨_, rfl⟩
          have HC : Hid (Th.check ⟨op, 0, 0, 0, 0, T - K - 4, cond, wb⟩ = 0) := Lib.hid (HOK.out (by decide))
          have hsz := enc_bd _ HC.out
          rw [hs] at HPS hsz
          have HS := Lib.hid hs
          have HZ := Lib.hid hsz
          have HP2 : Hid (As.byt L at' wl f (k + 1) = bl ++ s.data.toList) := Lib.hid (by rw [HPS.out, if_neg (by decide)])
          have bT := hab.out to_
          rw [hT] at bT
          have bK := hab.out k
          rw [hK] at bK
          clear HPS HOK hins hs hsz
          have HB' := HB.out
          have hcell : ∀ (j : Nat) (v : Int), j < n + 1 → at'.getD j 0 = v → wr.cell? (aa.add j) = some (.int .i64 v) := fun j v hj hv => by
            obtain ⟨p3, c3, e3, hat3⟩ := hA.out.kept HB'
            have hl3 := hal.out
            obtain ⟨a3, hp3, hOn3⟩ := hat3 j (by omega)
            injection e3 with ep3 en3 ec3
            rw [hp3] at ep3
            obtain rfl := Option.some.inj ep3
            have h := hOn3 0 _ rfl
            rw [add_zero', Nat.mul_one] at h
            rw [List.getD_eq_getElem?_getD, List.getElem?_eq_getElem (by omega)] at hv
            rw [← hv]
            exact h
          have hcT := hcell to_ T (by omega) hT
          have hcK := hcell k K (by omega) hK
          have hcW : wr.cell? (ww.add k) = some (.bool wb) := by
            obtain ⟨p3, c3, e3, hat3⟩ := hwl.out.kept HB'
            have hl3 := hwn.out
            obtain ⟨a3, hp3, hOn3⟩ := hat3 k (by omega)
            injection e3 with ep3 en3 ec3
            rw [hp3] at ep3
            obtain rfl := Option.some.inj ep3
            have h := hOn3 0 _ rfl
            rw [add_zero', Nat.mul_one] at h
            have hv : wl[k]'(by omega) = wb := by rw [← hwb]; unfold As.wd; rw [List.getD_eq_getElem?_getD, List.getElem?_eq_getElem (by omega)]; rfl
            rw [← hv]
            exact h
          have HOW := hown.out.kept (row := none) (grown_below HB') (by simp)
          clear hcell HB' hT hK hwb
          go_wp2
          have hI := (it_alloc wr 41 2 label op rd rn rm ra imm cond wide).below ((Below.refl _ _).alloc (Nat.le_refl _) (.cells #[.int .i64 op, .int .i64 rd, .int .i64 rn, .int .i64 rm, .int .i64 ra, .int .i64 imm, .int .i64 cond, .bool wide] 39)) (by simp)
          have hJ := ins_alloc (wr.alloc (.cells #[.int .i64 2, .int .i64 label, .int .i64 op, .int .i64 rd, .int .i64 rn, .int .i64 rm, .int .i64 ra, .int .i64 imm, .int .i64 cond, .bool wide] 41)) 39 op rd rn rm ra imm cond wide
          have hF := open_alloc (wr.alloc (.cells #[.int .i64 2, .int .i64 label, .int .i64 op, .int .i64 rd, .int .i64 rn, .int .i64 rm, .int .i64 ra, .int .i64 imm, .int .i64 cond, .bool wide] 41)) #[.int .i64 op, .int .i64 rd, .int .i64 rn, .int .i64 rm, .int .i64 ra, .int .i64 imm, .int .i64 cond, .bool wide] 39
          have e1 : (wr.alloc (.cells #[.int .i64 2, .int .i64 label, .int .i64 op, .int .i64 rd, .int .i64 rn, .int .i64 rm, .int .i64 ra, .int .i64 imm, .int .i64 cond, .bool wide] 41)).heap.size = wr.heap.size + 1 := by simp
          rw [e1] at hJ hF
          clear e1
          have hb2 : Below wr.heap.size wr ((wr.alloc (.cells #[.int .i64 2, .int .i64 label, .int .i64 op, .int .i64 rd, .int .i64 rn, .int .i64 rm, .int .i64 ra, .int .i64 imm, .int .i64 cond, .bool wide] 41)).alloc (.cells #[.int .i64 op, .int .i64 rd, .int .i64 rn, .int .i64 rm, .int .i64 ra, .int .i64 imm, .int .i64 cond, .bool wide] 39)) := by go_grown
          have hsz2 : ((wr.alloc (.cells #[.int .i64 2, .int .i64 label, .int .i64 op, .int .i64 rd, .int .i64 rn, .int .i64 rm, .int .i64 ra, .int .i64 imm, .int .i64 cond, .bool wide] 41)).alloc (.cells #[.int .i64 op, .int .i64 rd, .int .i64 rn, .int .i64 rm, .int .i64 ra, .int .i64 imm, .int .i64 cond, .bool wide] 39)).heap.size = wr.heap.size + 2 := by simp
          generalize (wr.alloc (.cells #[.int .i64 2, .int .i64 label, .int .i64 op, .int .i64 rd, .int .i64 rn, .int .i64 rm, .int .i64 ra, .int .i64 imm, .int .i64 cond, .bool wide] 41)).alloc (.cells #[.int .i64 op, .int .i64 rd, .int .i64 rn, .int .i64 rm, .int .i64 ra, .int .i64 imm, .int .i64 cond, .bool wide] 39) = wg at *
          have hcT2 : wg.cell? (aa.add to_) = some (.int .i64 T) := by rw [hb2.cell (cell_lt hcT)]; exact hcT
          have hcK2 : wg.cell? (aa.add k) = some (.int .i64 K) := by rw [hb2.cell (cell_lt hcK)]; exact hcK
          have hcW2 : wg.cell? (ww.add k) = some (.bool wb) := by rw [hb2.cell (cell_lt hcW)]; exact hcW
          have hkey := Maps.keyOf_int_mk (P := Try.prog) Try.underlying3 hwf
          have HOW2 : (World.drew wg).ownsMap Try.prog 3 (plainElem Try.prog 3) bm nm D := HOW.kept (row := none) (grown_below hb2.drew) (by simp)
          obtain ⟨cv, hlk, hcv, hwc⟩ := HOW2.lookup_int (t := 54) (Maps.int_keyed Try.underlying3) Try.underlying54 Try.underlying3 (Try.zeroValue3 _) hkey
          obtain rfl : cv = (to_ : Int) := by
            have h2 := (hM.out.2 label).2
            rw [hcv, hto] at h2
            injection h2 with h3
            injection h3
          have i1 : (0 : Int) ≤ (to_ : Int) := by omega
          have i2 : (to_ : Int) < (n : Int) + 1 := by omega
          have i3 : (k : Int) < (n : Int) + 1 := by omega
          obtain ⟨bT1, bT2⟩ := bT
          obtain ⟨bK1, bK2⟩ := bK
          have y1 : IntKind.i64.wrap (T - K) = T - K := IntWalk.i64_in _ (by omega)
          have y2 : IntKind.i64.wrap (T - K - 4) = T - K - 4 := IntWalk.i64_in _ (by omega)
          have HJ := Lib.hid hJ
          have HI := Lib.hid hI
          have HF := Lib.hid hF
          have HB2 := Lib.hid hb2
          have HSZ := Lib.hid hsz2
          obtain ⟨z0, z1, z2, z3, z4, z5, z6, z7, z8, z9⟩ := hI
          clear hb2 hsz2 hJ hF hcT hcK hcW x0 x1 x2 x3 x4 x5 x6 x7 x8 x9 HOW HOW2 hkey hcv hwc hto
          go_still_tail 18, (by kernel_rfl)
          change wpList _ _ _ _ _ wg.drew
          have HBd := Lib.hid (HB2.out.drew)
          have HJd : Hid (InsAt wg.drew (wr.heap.size + 1) op rd rn rm ra imm cond wide) := Lib.hid HJ.out
          have HFd : Hid (Open8 wg.drew (wr.heap.size + 1)) := Lib.hid HF.out
          have HSd : Hid (wg.drew.heap.size = wr.heap.size + 2) := Lib.hid HSZ.out
          generalize wg.drew = wd at *
          clear hlk z0 z1 z2 z3 z4 z5 z6 z7 z8 z9 hcT2 hcK2 hcW2 HJ HF HSZ HI HB2
          go_wp2_with (go_at_call 36; refine (abranch_any _ _ _ _ _ _ _ _ _ _ _ _ _).mono ?_; rintro e w1 ⟨rfl, hb1⟩; obtain ⟨j0, j1, j2, j3, j4, j5, j6, j7⟩ := HJd.out.below hb1 (by have := HSd.out; omega); have hfr : ∀ o, World.frozen? w1 ⟨wr.heap.size + 1, o, none⟩ = false := HFd.out.below hb1 (by have := HSd.out; omega); have HB1 := Lib.hid hb1; clear hb1)
          go_at_call 37
          refine (enc_lit _ _ _ _ _ _ _ _ s _ HS HC).mono ?_
          rintro e w2 ⟨rfl, hb2⟩
          have HX : Hid (Below wr.heap.size wr w2) := Lib.hid (by
            have hY := below_set8 (HBd.out.trans (HB1.out.mono HBd.out.size)) (wr.heap.size + 1) (by omega) (.int .i64 op) (.int .i64 0) (.int .i64 0) (.int .i64 0) (.int .i64 0) (.int .i64 (T - K - 4)) (.int .i64 cond) (.bool wb)
            exact below_on hY hb2 hY.size)
          clear hb2
          go_wp2_with (go_at_call 38; refine ((HBR.out.kept HX.out).write s HZ.out.1 (by have := HPL.out; have := HZ.out.2; omega)).mono ?_; rintro e w3 ⟨rfl, hbr3, hb3⟩)
          exact ⟨⟨k + 1, by simp, by omega, by rw [HP2.out]; exact hbr3, (HB.out.trans (HX.out.mono HB.out.size)).trans hb3⟩, by simp [intOf]; omega⟩
        · have hins : As.insAt at' wl f k ⟨kind, label, ⟨op, rd, rn, rm, ra, imm, cond, wide⟩⟩ = ⟨op, rd, rn, rm, ra, imm, cond, wide⟩ := by
            unfold As.insAt
            rw [if_neg (by simpa using hk2)]
          rw [hins] at HPS HOK
          obtain ⟨s, hs⟩ : ∃ s, Th.encS ⟨op, rd, rn, rm, ra, imm, cond, wide⟩ = s := ⟨_, rfl⟩
          have HC : Hid (Th.check ⟨op, rd, rn, rm, ra, imm, cond, wide⟩ = 0) := Lib.hid (HOK.out hk1)
          have hsz := enc_bd _ HC.out
          rw [hs] at HPS hsz
          have HS := Lib.hid hs
          have HZ := Lib.hid hsz
          have q1 : (kind == 1) = false := by simpa using hk1
          have q2 : (kind == 2) = false := by simpa using hk2
          have HP2 : Hid (As.byt L at' wl f (k + 1) = bl ++ s.data.toList) := Lib.hid (by rw [HPS.out, q1]; rfl)
          clear HPS HOK hins hs hsz
          go_wp2_with (first
            | (go_at_call 37; refine (enc_lit _ _ _ _ _ _ _ _ s _ HS HC).mono ?_; rintro e w2 ⟨rfl, hb2⟩; have HX : Hid (Below wr.heap.size wr w2) := Lib.hid (below_on (by go_grown) hb2 (by simp; omega)); clear hb2)
            | (go_at_call 38; refine ((HBR.out.kept HX.out).write s HZ.out.1 (by have := HPL.out; have := HZ.out.2; omega)).mono ?_; rintro e w3 ⟨rfl, hbr3, hb3⟩))
          exact ⟨⟨k + 1, by simp, by omega, by rw [HP2.out]; exact hbr3, (HB.out.trans (HX.out.mono HB.out.size)).trans hb3⟩, by simp [intOf]; omega⟩
    · obtain rfl : k = n := by omega
      rw [HR.out] at hbr
      have hge : ¬ (k : Int) < (k : Int) := by omega
      have HBR := Lib.hid hbr
      have HB := Lib.hid hB
      clear hbr hB
      go_wp2_with (go_at_call 39; refine HBR.out.string.mono ?_; rintro e w3 ⟨rfl, hb3⟩)
      go_ret
      exact ⟨rfl, HB.out.trans hb3⟩
end Go.Proofs.Ytplfpaffjaldoaa
