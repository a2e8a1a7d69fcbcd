/-
  Plain mathematics of bytes as instructions: an instruction's bytes, with whatever behind them, are decoded as it, and what is decoded has just those bytes. It names nothing of the translated program.
-/
import Derived.Test.YtcajllbhgfaofaaDecodeM3
namespace Go.Proofs.Ytcajllbhgfaofaa.De
open Go.RowKit
open Th (Ins none0 check num encS by0 by1 b40 b41 b42 b43)
set_option linter.unusedVariables false

theorem complete (i : Ins) (h : check i = 0) : find (num i) = i.op ∧ there (read i.op (num i)) = true := by
  obtain ⟨op, rd, rn, rm, ra, imm, cond, wide⟩ := i
  rcases Th.op_cases (Th.op_range h) with rfl | rfl | rfl | rfl | rfl | rfl | rfl | rfl | rfl | rfl | rfl | rfl | rfl | rfl | rfl | rfl | rfl | rfl | rfl | rfl | rfl | rfl | rfl | rfl | rfl
  · exact rowB1 _ _ _ _ _ _ _ h
  · exact rowB2 _ _ _ _ _ _ _ h
  · exact rowB3 _ _ _ _ _ _ _ h
  · exact rowB4 _ _ _ _ _ _ _ h
  · exact rowB5 _ _ _ _ _ _ _ h
  · exact rowB6 _ _ _ _ _ _ _ h
  · exact rowB7 _ _ _ _ _ _ _ h
  · exact rowB8 _ _ _ _ _ _ _ h
  · exact rowB9 _ _ _ _ _ _ _ h
  · exact rowB10 _ _ _ _ _ _ _ h
  · exact rowB11 _ _ _ _ _ _ _ h
  · exact rowB12 _ _ _ _ _ _ _ h
  · exact rowB13 _ _ _ _ _ _ _ h
  · exact rowB14 _ _ _ _ _ _ _ h
  · exact rowB15 _ _ _ _ _ _ _ h
  · exact rowB16 _ _ _ _ _ _ _ h
  · exact rowB17 _ _ _ _ _ _ _ h
  · exact rowB18 _ _ _ _ _ _ _ h
  · exact rowB19 _ _ _ _ _ _ _ h
  · exact rowB20 _ _ _ _ _ _ _ h
  · exact rowB21 _ _ _ _ _ _ _ h
  · exact rowB22 _ _ _ _ _ _ _ h
  · exact rowB23 _ _ _ _ _ _ _ h
  · cases wide
    · exact rowB24n _ _ _ _ _ _ h
    · exact rowB24w _ _ _ _ _ _ h
  · cases wide
    · exact rowB25n _ _ _ _ _ _ h
    · exact rowB25w _ _ _ _ _ _ h
theorem back (i : Ins) (h : check i = 0) : read (find (num i)) (num i) = i ∧ there (read (find (num i)) (num i)) = true := by
  obtain ⟨h1, h2⟩ := complete i h
  have hx : num i < 4294967296 := by rcases Th.size_num i h with h | h <;> omega
  rw [← h1] at h2
  obtain ⟨h3, h4⟩ := sound (num i) hx h2
  refine ⟨?_, h2⟩
  rcases Th.size_num i h with ⟨s1, s2⟩ | ⟨s1, s2, s3⟩ <;> rcases Th.size_num _ h3 with ⟨t1, t2⟩ | ⟨t1, t2, t3⟩
  · exact Th.like22 _ _ h3 h t1 s1 h4
  · rw [h4] at t2; omega
  · rw [h4] at t2; omega
  · exact Th.like44 _ _ h3 h t1 s1 h4
theorem byt_list (s : ByteArray) (k : Nat) : byt s k = ((s.data.toList[k]?).getD 0).toNat := by
  unfold byt
  split
  · rename_i h
    have : s.data.toList[k]? = some s[k] := by
      rw [Array.getElem?_toList]; exact Array.getElem?_eq_getElem h
    rw [this]; rfl
  · rename_i h
    have : s.data.toList[k]? = none := by
      rw [Array.getElem?_toList]; exact Array.getElem?_eq_none (by simpa using h)
    rw [this]; rfl
theorem app_list (a s : ByteArray) : (a ++ s).data.toList = a.data.toList ++ s.data.toList := by
  rw [ByteArray.data_append, Array.toList_append]
theorem u8n (n : Nat) (h : n < 256) : (UInt8.ofNat n).toNat = n := by rw [UInt8.toNat_ofNat', Nat.mod_eq_of_lt h]
/-- bytes that begin with an instruction's -/
theorem begins2 (i : Ins) (h : check i = 0) (hs : Th.size i = 2) (s : ByteArray) : De.size (encS i ++ s) = 2 ∧ word (encS i ++ s) 2 = num i := by
  have hlt := Th.size2_lt i h hs
  have hh : half (encS i ++ s) 0 = num i := by
    unfold half
    rw [byt_list, byt_list, app_list, Th.encS2 i h hs]
    show (by0 (num i)).toNat + 256 * (by1 (num i)).toNat = num i
    unfold by0 by1
    rw [u8n _ (by omega), u8n _ (by omega)]
    omega
  have hz : ¬ (encS i ++ s).size < 2 := by
    rw [ByteArray.size_append, Th.encS2 i h hs]
    have : (⟨#[by0 (num i), by1 (num i)]⟩ : ByteArray).size = 2 := rfl
    omega
  refine ⟨?_, ?_⟩
  · unfold De.size; rw [if_neg hz, hh, if_pos hlt]
  · unfold word; rw [if_neg (by decide), hh]
theorem begins4 (i : Ins) (h : check i = 0) (hs : Th.size i = 4) (s : ByteArray) : De.size (encS i ++ s) = 4 ∧ word (encS i ++ s) 4 = num i := by
  have hbd := Th.num4_bd i h hs
  have hh : half (encS i ++ s) 0 = num i / 65536 := by
    unfold half
    rw [byt_list, byt_list, app_list, Th.encS4 i h hs]
    show (b40 (num i)).toNat + 256 * (b41 (num i)).toNat = num i / 65536
    unfold b40 b41
    rw [u8n _ (by omega), u8n _ (by omega)]
    omega
  have hh1 : half (encS i ++ s) 1 = num i % 65536 := by
    unfold half
    rw [byt_list, byt_list, app_list, Th.encS4 i h hs]
    show (b42 (num i)).toNat + 256 * (b43 (num i)).toNat = num i % 65536
    unfold b42 b43
    rw [u8n _ (by omega), u8n _ (by omega)]
    omega
  have hz : ¬ (encS i ++ s).size < 2 := by
    rw [ByteArray.size_append, Th.encS4 i h hs]
    have : (⟨#[b40 (num i), b41 (num i), b42 (num i), b43 (num i)]⟩ : ByteArray).size = 4 := rfl
    omega
  refine ⟨?_, ?_⟩
  · unfold De.size; rw [if_neg hz, hh, if_neg (by omega)]
  · unfold word; rw [if_pos rfl, hh, hh1]; omega
theorem enc_size (i : Ins) (h : check i = 0) : ((encS i).size : Int) = Th.size i := by
  rcases Th.size_num i h with ⟨s1, s2⟩ | ⟨s1, s2, s3⟩
  · rw [Th.encS2 i h s1, s1]; rfl
  · rw [Th.encS4 i h s1, s1]; rfl
theorem begins (i : Ins) (h : check i = 0) (s : ByteArray) : err (encS i ++ s) = 0 ∧ ins (encS i ++ s) = i ∧ (len (encS i ++ s) : Int) = Th.size i := by
  have hz := enc_size i h
  have key : ∀ n : Nat, (n : Int) = Th.size i → n ≠ 0 → De.size (encS i ++ s) = n ∧ word (encS i ++ s) n = num i → err (encS i ++ s) = 0 ∧ ins (encS i ++ s) = i ∧ (len (encS i ++ s) : Int) = Th.size i := by
    intro n hn n0 ⟨h1, h2⟩
    have ht : told (encS i ++ s) = i := by unfold told; rw [h1, h2]; exact (back i h).1
    have ht2 : there (told (encS i ++ s)) = true := by unfold told; rw [h1, h2]; exact (back i h).2
    have he : err (encS i ++ s) = 0 := by
      unfold err
      rw [if_neg (by rw [h1, ByteArray.size_append]; omega), if_pos ht2]
    refine ⟨he, ?_, ?_⟩
    · unfold ins; rw [if_pos he, ht]
    · unfold len; rw [if_pos he, h1]; exact hn
  rcases Th.size_num i h with ⟨s1, s2⟩ | ⟨s1, s2, s3⟩
  · exact key 2 (by rw [s1]; rfl) (by decide) (begins2 i h s1 s)
  · exact key 4 (by rw [s1]; rfl) (by decide) (begins4 i h s1 s)
theorem size_enc (i : Ins) (h : check i = 0) : (De.size (encS i) : Int) = Th.size i := by
  have e : encS i = encS i ++ ⟨#[]⟩ := by
    apply ByteArray.ext
    rw [ByteArray.data_append]
    simp
  rcases Th.size_num i h with ⟨s1, s2⟩ | ⟨s1, s2, s3⟩
  · rw [e, (begins2 i h s1 _).1, s1]; rfl
  · rw [e, (begins4 i h s1 _).1, s1]; rfl
theorem err_cases (s : ByteArray) : (err s = 0 ∧ De.size s ≠ 0 ∧ De.size s ≤ s.size ∧ there (told s) = true) ∨ err s = 3 ∨ err s = 7 := by
  unfold err
  split
  · exact Or.inr (Or.inl rfl)
  · split
    · exact Or.inl ⟨rfl, by omega, by omega, by assumption⟩
    · exact Or.inr (Or.inr rfl)
theorem size_cases (s : ByteArray) : De.size s = 0 ∨ (De.size s = 2 ∧ half s 0 < 59392 ∧ 2 ≤ s.size) ∨ (De.size s = 4 ∧ 59392 ≤ half s 0) := by
  unfold De.size
  split
  · exact Or.inl rfl
  · split
    · exact Or.inr (Or.inl ⟨rfl, by assumption, by omega⟩)
    · exact Or.inr (Or.inr ⟨rfl, by omega⟩)
theorem ofNat_byt {a : UInt8} {n : Nat} (h : n = a.toNat) : UInt8.ofNat n = a := by rw [h]; exact UInt8.ofNat_toNat
set_option maxRecDepth 100000 in
/-- what is decoded has just those bytes -/
theorem only (s : ByteArray) (he : err s = 0) : check (ins s) = 0 ∧ (len s : Int) = Th.size (ins s) ∧ len s ≤ s.size ∧ encS (ins s) = s.extract 0 (len s) := by
  rcases err_cases s with ⟨_, h0, h1, h2⟩ | h | h
  case inr.inl => omega
  case inr.inr => omega
  have hi : ins s = told s := by unfold ins; rw [if_pos he]
  have hl : len s = De.size s := by unfold len; rw [if_pos he]
  obtain ⟨c1, c2⟩ := sound _ (word_lt s (De.size s)) h2
  have c1' : check (told s) = 0 := c1
  have c2' : num (told s) = word s (De.size s) := c2
  rw [hi, hl]
  refine ⟨c1', ?_⟩
  rcases size_cases s with g | ⟨g, g2, g3⟩ | ⟨g, g2⟩
  · exact absurd g h0
  · have hn : num (told s) = half s 0 := by rw [c2', g]; rfl
    have sz : Th.size (told s) = 2 := by rcases Th.size_num _ c1' with ⟨q, _⟩ | ⟨_, q, _⟩; exact q; omega
    refine ⟨by rw [g, sz]; rfl, h1, ?_⟩
    rw [Th.encS2 _ c1' sz, g, hn]
    apply ByteArray.ext
    rw [ByteArray.data_extract]
    apply Array.ext'
    have b0 := byt_lt s 0
    have b1 := byt_lt s 1
    have k0 : half s 0 = byt s 0 + 256 * byt s 1 := rfl
    have e0 : by0 (half s 0) = s[0] := by
      unfold by0; apply ofNat_byt; rw [byt_eq s 0 (by omega)]; omega
    have e1 : by1 (half s 0) = s[1] := by
      unfold by1; apply ofNat_byt; rw [byt_eq s 1 (by omega)]; omega
    rw [e0, e1, Array.toList_extract]
    obtain ⟨d⟩ := s
    obtain ⟨l⟩ := d
    match l, g3 with
    | a :: b :: l, _ => rfl
  · have hn : num (told s) = half s 0 * 65536 + half s 1 := by rw [c2', g]; rfl
    have sz : Th.size (told s) = 4 := by rcases Th.size_num _ c1' with ⟨_, q⟩ | ⟨q, _, _⟩; omega; exact q
    have g4 : 4 ≤ s.size := by omega
    refine ⟨by rw [g, sz]; rfl, h1, ?_⟩
    rw [Th.encS4 _ c1' sz, g, hn]
    apply ByteArray.ext
    rw [ByteArray.data_extract]
    apply Array.ext'
    have b0 := byt_lt s 0
    have b1 := byt_lt s 1
    have b2 := byt_lt s 2
    have b3 := byt_lt s 3
    have k0 : half s 0 = byt s 0 + 256 * byt s 1 := rfl
    have k1 : half s 1 = byt s 2 + 256 * byt s 3 := rfl
    have e0 : b40 (half s 0 * 65536 + half s 1) = s[0] := by
      unfold b40; apply ofNat_byt; rw [byt_eq s 0 (by omega)]; omega
    have e1 : b41 (half s 0 * 65536 + half s 1) = s[1] := by
      unfold b41; apply ofNat_byt; rw [byt_eq s 1 (by omega)]; omega
    have e2 : b42 (half s 0 * 65536 + half s 1) = s[2] := by
      unfold b42; apply ofNat_byt; rw [byt_eq s 2 (by omega)]; omega
    have e3 : b43 (half s 0 * 65536 + half s 1) = s[3] := by
      unfold b43; apply ofNat_byt; rw [byt_eq s 3 (by omega)]; omega
    rw [e0, e1, e2, e3, Array.toList_extract]
    obtain ⟨d⟩ := s
    obtain ⟨l⟩ := d
    clear e0 e1 e2 e3 b0 b1 b2 b3 k0 k1 hn sz h0 h1 h2 he hi hl c1 c2 c1' c2' g g2
    match l, g4 with
    | a :: b :: c :: e :: l, _ => rfl
end Go.Proofs.Ytcajllbhgfaofaa.De
