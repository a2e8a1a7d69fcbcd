/-
  Plain mathematics of instructions: from its bits an instruction is told again. It names nothing of the translated program.
-/
import Derived.Test.YtennhpfhgbmnfaaThumbM5
namespace Go.Proofs.Ytennhpfhgbmnfaa.Th
open Go.RowKit

/-- which operation bits of 16, and of 32, are: a wide branch's number has 100 added -/
def op16 (h : Nat) : Int :=
  if h / 2048 = 28 then 24 else if h / 4096 = 13 then 25 else if h = 48896 then 1 else if h / 256 = 190 then 2 else
  if h / 64 = 416 then 19 else if h / 64 = 384 then 20 else if h / 64 = 480 then 21 else if h / 64 = 448 then 22 else if h / 64 = 266 then 23 else 0
def op32 (a b : Nat) : Int :=
  if a / 2048 = 30 then
    if b / 32768 = 1 then (if b / 4096 % 2 = 1 then 124 else 125)
    else if a / 16 % 64 = 36 then 3 else if a / 16 % 64 = 44 then 4 else 18
  else if a = 59983 then 5 + ((b / 16 % 4 : Nat) : Int)
  else if a = 60015 then 9
  else if a / 16 = 3744 then 10 else if a / 16 = 3746 then 11 else if a / 16 = 3748 then 12 else if a / 16 = 3752 then 13
  else if a / 16 = 3760 then 14 else if a / 16 = 3770 then 15 else if a / 16 = 4016 then 16 else if a / 16 = 4026 then 17 else 0
def opOf (i : Ins) : Int := if i.wide then i.op + 100 else i.op
theorem op_told (i : Ins) (h : check i = 0) : (size i = 2 → op16 (num i) = opOf i) ∧ (size i = 4 → op32 (num i / 65536) (num i % 65536) = opOf i) := by
  obtain ⟨op, rd, rn, rm, ra, imm, cond, wide⟩ := i
  rcases op_cases (op_range h) with rfl | rfl | rfl | rfl | rfl | rfl | rfl | rfl | rfl | rfl | rfl | rfl | rfl | rfl | rfl | rfl | rfl | rfl | rfl | rfl | rfl | rfl | rfl | rfl | rfl
  ·
    have hs := size1 _ _ _ _ _ _ _ h
    have hn := num1 rd rn rm ra imm cond wide
    rw [ok1] at h
    obtain ⟨h1, h2, h3, h4, h5, h6, rfl⟩ := h
    rw [hs, hn]
    clear hs hn
    refine ⟨fun _ => ?_, fun e => absurd e (by decide)⟩
    show op16 _ = 1
    unfold op16
    repeat (first | rw [if_pos (by omega)] | rw [if_neg (by omega)])
  ·
    have b0 := fv_lt imm 1 256 (by decide)
    have hs := size2 _ _ _ _ _ _ _ h
    have hn := num2 rd rn rm ra imm cond wide
    rw [ok2] at h
    obtain ⟨h1, h2, h3, h4, h5, h6, rfl⟩ := h
    rw [hs, hn]
    clear hs hn
    refine ⟨fun _ => ?_, fun e => absurd e (by decide)⟩
    show op16 _ = 2
    unfold op16
    repeat (first | rw [if_pos (by omega)] | rw [if_neg (by omega)])
  ·
    have b0 := fv_lt imm 2048 2 (by decide)
    have b1 := fv_lt imm 4096 16 (by decide)
    have b2 := fv_lt imm 256 8 (by decide)
    have b3 := fv_lt rd 1 16 (by decide)
    have b4 := fv_lt imm 1 256 (by decide)
    have hs := size3 _ _ _ _ _ _ _ h
    have hn := num3 rd rn rm ra imm cond wide
    rw [ok3] at h
    obtain ⟨h1, h2, h3, h4, h5, h6, rfl⟩ := h
    rw [hs, hn]
    clear hs hn
    refine ⟨fun e => absurd e (by decide), fun _ => ?_⟩
    show op32 _ _ = 3
    unfold op32
    repeat (first | rw [if_pos (by omega)] | rw [if_neg (by omega)])
  ·
    have b0 := fv_lt imm 2048 2 (by decide)
    have b1 := fv_lt imm 4096 16 (by decide)
    have b2 := fv_lt imm 256 8 (by decide)
    have b3 := fv_lt rd 1 16 (by decide)
    have b4 := fv_lt imm 1 256 (by decide)
    have hs := size4 _ _ _ _ _ _ _ h
    have hn := num4 rd rn rm ra imm cond wide
    rw [ok4] at h
    obtain ⟨h1, h2, h3, h4, h5, h6, rfl⟩ := h
    rw [hs, hn]
    clear hs hn
    refine ⟨fun e => absurd e (by decide), fun _ => ?_⟩
    show op32 _ _ = 4
    unfold op32
    repeat (first | rw [if_pos (by omega)] | rw [if_neg (by omega)])
  ·
    have b0 := fv_lt imm 4 8 (by decide)
    have b1 := fv_lt rd 1 16 (by decide)
    have b2 := fv_lt imm 1 4 (by decide)
    have b3 := fv_lt rm 1 16 (by decide)
    have hs := size5 _ _ _ _ _ _ _ h
    have hn := num5 rd rn rm ra imm cond wide
    rw [ok5] at h
    obtain ⟨h1, h2, h3, h4, h5, h6, rfl⟩ := h
    rw [hs, hn]
    clear hs hn
    refine ⟨fun e => absurd e (by decide), fun _ => ?_⟩
    show op32 _ _ = 5
    unfold op32
    repeat (first | rw [if_pos (by omega)] | rw [if_neg (by omega)])
    omega
  ·
    have b0 := fv_lt imm 4 8 (by decide)
    have b1 := fv_lt rd 1 16 (by decide)
    have b2 := fv_lt imm 1 4 (by decide)
    have b3 := fv_lt rm 1 16 (by decide)
    have hs := size6 _ _ _ _ _ _ _ h
    have hn := num6 rd rn rm ra imm cond wide
    rw [ok6] at h
    obtain ⟨h1, h2, h3, h4, h5, h6, rfl⟩ := h
    rw [hs, hn]
    clear hs hn
    refine ⟨fun e => absurd e (by decide), fun _ => ?_⟩
    show op32 _ _ = 6
    unfold op32
    repeat (first | rw [if_pos (by omega)] | rw [if_neg (by omega)])
    omega
  ·
    have b0 := fv_lt imm 4 8 (by decide)
    have b1 := fv_lt rd 1 16 (by decide)
    have b2 := fv_lt imm 1 4 (by decide)
    have b3 := fv_lt rm 1 16 (by decide)
    have hs := size7 _ _ _ _ _ _ _ h
    have hn := num7 rd rn rm ra imm cond wide
    rw [ok7] at h
    obtain ⟨h1, h2, h3, h4, h5, h6, rfl⟩ := h
    rw [hs, hn]
    clear hs hn
    refine ⟨fun e => absurd e (by decide), fun _ => ?_⟩
    show op32 _ _ = 7
    unfold op32
    repeat (first | rw [if_pos (by omega)] | rw [if_neg (by omega)])
    omega
  ·
    have b0 := fv_lt imm 4 8 (by decide)
    have b1 := fv_lt rd 1 16 (by decide)
    have b2 := fv_lt imm 1 4 (by decide)
    have b3 := fv_lt rm 1 16 (by decide)
    have hs := size8 _ _ _ _ _ _ _ h
    have hn := num8 rd rn rm ra imm cond wide
    rw [ok8] at h
    obtain ⟨h1, h2, h3, h4, h5, h6, rfl⟩ := h
    rw [hs, hn]
    clear hs hn
    refine ⟨fun e => absurd e (by decide), fun _ => ?_⟩
    show op32 _ _ = 8
    unfold op32
    repeat (first | rw [if_pos (by omega)] | rw [if_neg (by omega)])
    omega
  ·
    have b0 := fv_lt rd 1 16 (by decide)
    have b1 := fv_lt rm 1 16 (by decide)
    have hs := size9 _ _ _ _ _ _ _ h
    have hn := num9 rd rn rm ra imm cond wide
    rw [ok9] at h
    obtain ⟨h1, h2, h3, h4, h5, h6, rfl⟩ := h
    rw [hs, hn]
    clear hs hn
    refine ⟨fun e => absurd e (by decide), fun _ => ?_⟩
    show op32 _ _ = 9
    unfold op32
    repeat (first | rw [if_pos (by omega)] | rw [if_neg (by omega)])
  ·
    have b0 := fv_lt rn 1 16 (by decide)
    have b1 := fv_lt rd 1 16 (by decide)
    have b2 := fv_lt rm 1 16 (by decide)
    have hs := size10 _ _ _ _ _ _ _ h
    have hn := num10 rd rn rm ra imm cond wide
    rw [ok10] at h
    obtain ⟨h1, h2, h3, h4, h5, h6, rfl⟩ := h
    have hr : fv rn 1 16 ≤ 12 := by unfold fv; omega
    rw [hs, hn]
    clear hs hn
    refine ⟨fun e => absurd e (by decide), fun _ => ?_⟩
    show op32 _ _ = 10
    unfold op32
    repeat (first | rw [if_pos (by omega)] | rw [if_neg (by omega)])
  ·
    have b0 := fv_lt rn 1 16 (by decide)
    have b1 := fv_lt rd 1 16 (by decide)
    have b2 := fv_lt rm 1 16 (by decide)
    have hs := size11 _ _ _ _ _ _ _ h
    have hn := num11 rd rn rm ra imm cond wide
    rw [ok11] at h
    obtain ⟨h1, h2, h3, h4, h5, h6, rfl⟩ := h
    have hr : fv rn 1 16 ≤ 12 := by unfold fv; omega
    rw [hs, hn]
    clear hs hn
    refine ⟨fun e => absurd e (by decide), fun _ => ?_⟩
    show op32 _ _ = 11
    unfold op32
    repeat (first | rw [if_pos (by omega)] | rw [if_neg (by omega)])
  ·
    have b0 := fv_lt rn 1 16 (by decide)
    have b1 := fv_lt rd 1 16 (by decide)
    have b2 := fv_lt rm 1 16 (by decide)
    have hs := size12 _ _ _ _ _ _ _ h
    have hn := num12 rd rn rm ra imm cond wide
    rw [ok12] at h
    obtain ⟨h1, h2, h3, h4, h5, h6, rfl⟩ := h
    have hr : fv rn 1 16 ≤ 12 := by unfold fv; omega
    rw [hs, hn]
    clear hs hn
    refine ⟨fun e => absurd e (by decide), fun _ => ?_⟩
    show op32 _ _ = 12
    unfold op32
    repeat (first | rw [if_pos (by omega)] | rw [if_neg (by omega)])
  ·
    have b0 := fv_lt rn 1 16 (by decide)
    have b1 := fv_lt rd 1 16 (by decide)
    have b2 := fv_lt rm 1 16 (by decide)
    have hs := size13 _ _ _ _ _ _ _ h
    have hn := num13 rd rn rm ra imm cond wide
    rw [ok13] at h
    obtain ⟨h1, h2, h3, h4, h5, h6, rfl⟩ := h
    have hr : fv rn 1 16 ≤ 12 := by unfold fv; omega
    rw [hs, hn]
    clear hs hn
    refine ⟨fun e => absurd e (by decide), fun _ => ?_⟩
    show op32 _ _ = 13
    unfold op32
    repeat (first | rw [if_pos (by omega)] | rw [if_neg (by omega)])
  ·
    have b0 := fv_lt rn 1 16 (by decide)
    have b1 := fv_lt rd 1 16 (by decide)
    have b2 := fv_lt rm 1 16 (by decide)
    have hs := size14 _ _ _ _ _ _ _ h
    have hn := num14 rd rn rm ra imm cond wide
    rw [ok14] at h
    obtain ⟨h1, h2, h3, h4, h5, h6, rfl⟩ := h
    have hr : fv rn 1 16 ≤ 12 := by unfold fv; omega
    rw [hs, hn]
    clear hs hn
    refine ⟨fun e => absurd e (by decide), fun _ => ?_⟩
    show op32 _ _ = 14
    unfold op32
    repeat (first | rw [if_pos (by omega)] | rw [if_neg (by omega)])
  ·
    have b0 := fv_lt rn 1 16 (by decide)
    have b1 := fv_lt rd 1 16 (by decide)
    have b2 := fv_lt rm 1 16 (by decide)
    have hs := size15 _ _ _ _ _ _ _ h
    have hn := num15 rd rn rm ra imm cond wide
    rw [ok15] at h
    obtain ⟨h1, h2, h3, h4, h5, h6, rfl⟩ := h
    have hr : fv rn 1 16 ≤ 12 := by unfold fv; omega
    rw [hs, hn]
    clear hs hn
    refine ⟨fun e => absurd e (by decide), fun _ => ?_⟩
    show op32 _ _ = 15
    unfold op32
    repeat (first | rw [if_pos (by omega)] | rw [if_neg (by omega)])
  ·
    have b0 := fv_lt rn 1 16 (by decide)
    have b1 := fv_lt rd 1 16 (by decide)
    have b2 := fv_lt rm 1 16 (by decide)
    have hs := size16 _ _ _ _ _ _ _ h
    have hn := num16 rd rn rm ra imm cond wide
    rw [ok16] at h
    obtain ⟨h1, h2, h3, h4, h5, h6, rfl⟩ := h
    have hr : fv rn 1 16 ≤ 12 := by unfold fv; omega
    rw [hs, hn]
    clear hs hn
    refine ⟨fun e => absurd e (by decide), fun _ => ?_⟩
    show op32 _ _ = 16
    unfold op32
    repeat (first | rw [if_pos (by omega)] | rw [if_neg (by omega)])
  ·
    have b0 := fv_lt rn 1 16 (by decide)
    have b1 := fv_lt rd 1 16 (by decide)
    have b2 := fv_lt ra 1 16 (by decide)
    have b3 := fv_lt rm 1 16 (by decide)
    have hs := size17 _ _ _ _ _ _ _ h
    have hn := num17 rd rn rm ra imm cond wide
    rw [ok17] at h
    obtain ⟨h1, h2, h3, h4, h5, h6, rfl⟩ := h
    have hr : fv rn 1 16 ≤ 12 := by unfold fv; omega
    rw [hs, hn]
    clear hs hn
    refine ⟨fun e => absurd e (by decide), fun _ => ?_⟩
    show op32 _ _ = 17
    unfold op32
    repeat (first | rw [if_pos (by omega)] | rw [if_neg (by omega)])
  ·
    have b0 := fv_lt rn 1 16 (by decide)
    have b1 := fv_lt imm 4 8 (by decide)
    have b2 := fv_lt rd 1 16 (by decide)
    have b3 := fv_lt imm 1 4 (by decide)
    have b4 := fv_lt (imm + ra - 1) 1 32 (by decide)
    have hs := size18 _ _ _ _ _ _ _ h
    have hn := num18 rd rn rm ra imm cond wide
    rw [ok18] at h
    obtain ⟨h1, h2, h3, h4, h5, h6, rfl⟩ := h
    rw [hs, hn]
    clear hs hn
    refine ⟨fun e => absurd e (by decide), fun _ => ?_⟩
    show op32 _ _ = 18
    unfold op32
    repeat (first | rw [if_pos (by omega)] | rw [if_neg (by omega)])
  ·
    have b0 := fv_lt rn 1 8 (by decide)
    have b1 := fv_lt rd 1 8 (by decide)
    have hs := size19 _ _ _ _ _ _ _ h
    have hn := num19 rd rn rm ra imm cond wide
    rw [ok19] at h
    obtain ⟨h1, h2, h3, h4, h5, h6, rfl⟩ := h
    rw [hs, hn]
    clear hs hn
    refine ⟨fun _ => ?_, fun e => absurd e (by decide)⟩
    show op16 _ = 19
    unfold op16
    repeat (first | rw [if_pos (by omega)] | rw [if_neg (by omega)])
  ·
    have b0 := fv_lt rn 1 8 (by decide)
    have b1 := fv_lt rd 1 8 (by decide)
    have hs := size20 _ _ _ _ _ _ _ h
    have hn := num20 rd rn rm ra imm cond wide
    rw [ok20] at h
    obtain ⟨h1, h2, h3, h4, h5, h6, rfl⟩ := h
    rw [hs, hn]
    clear hs hn
    refine ⟨fun _ => ?_, fun e => absurd e (by decide)⟩
    show op16 _ = 20
    unfold op16
    repeat (first | rw [if_pos (by omega)] | rw [if_neg (by omega)])
  ·
    have b0 := fv_lt rn 1 8 (by decide)
    have b1 := fv_lt rd 1 8 (by decide)
    have hs := size21 _ _ _ _ _ _ _ h
    have hn := num21 rd rn rm ra imm cond wide
    rw [ok21] at h
    obtain ⟨h1, h2, h3, h4, h5, h6, rfl⟩ := h
    rw [hs, hn]
    clear hs hn
    refine ⟨fun _ => ?_, fun e => absurd e (by decide)⟩
    show op16 _ = 21
    unfold op16
    repeat (first | rw [if_pos (by omega)] | rw [if_neg (by omega)])
  ·
    have b0 := fv_lt rn 1 8 (by decide)
    have b1 := fv_lt rd 1 8 (by decide)
    have hs := size22 _ _ _ _ _ _ _ h
    have hn := num22 rd rn rm ra imm cond wide
    rw [ok22] at h
    obtain ⟨h1, h2, h3, h4, h5, h6, rfl⟩ := h
    rw [hs, hn]
    clear hs hn
    refine ⟨fun _ => ?_, fun e => absurd e (by decide)⟩
    show op16 _ = 22
    unfold op16
    repeat (first | rw [if_pos (by omega)] | rw [if_neg (by omega)])
  ·
    have b0 := fv_lt rm 1 8 (by decide)
    have b1 := fv_lt rn 1 8 (by decide)
    have hs := size23 _ _ _ _ _ _ _ h
    have hn := num23 rd rn rm ra imm cond wide
    rw [ok23] at h
    obtain ⟨h1, h2, h3, h4, h5, h6, rfl⟩ := h
    rw [hs, hn]
    clear hs hn
    refine ⟨fun _ => ?_, fun e => absurd e (by decide)⟩
    show op16 _ = 23
    unfold op16
    repeat (first | rw [if_pos (by omega)] | rw [if_neg (by omega)])
  · cases wide
    ·
      have b0 := fv_lt (off imm) 2 2048 (by decide)
      have hs := size24n _ _ _ _ _ _ h
      have hn := num24n rd rn rm ra imm cond
      rw [hs, hn]
      clear hs hn
      refine ⟨fun _ => ?_, fun e => absurd e (by decide)⟩
      show op16 _ = 24
      unfold op16
      repeat (first | rw [if_pos (by omega)] | rw [if_neg (by omega)])
    ·
      have b0 := fv_lt (off imm) 16777216 2 (by decide)
      have b1 := fv_lt (off imm) 4096 1024 (by decide)
      have b2 := fv_lt (alike (off imm) 23 24) 1 2 (by decide)
      have b3 := fv_lt (alike (off imm) 22 24) 1 2 (by decide)
      have b4 := fv_lt (off imm) 2 2048 (by decide)
      have hs := size24w _ _ _ _ _ _ h
      have hn := num24w rd rn rm ra imm cond
      rw [hs, hn]
      clear hs hn
      refine ⟨fun e => absurd e (by decide), fun _ => ?_⟩
      show op32 _ _ = 124
      unfold op32
      repeat (first | rw [if_pos (by omega)] | rw [if_neg (by omega)])
  · cases wide
    ·
      have b0 := fv_lt cond 1 16 (by decide)
      have b1 := fv_lt (off imm) 2 256 (by decide)
      have hs := size25n _ _ _ _ _ _ h
      have hn := num25n rd rn rm ra imm cond
      rw [hs, hn]
      clear hs hn
      refine ⟨fun _ => ?_, fun e => absurd e (by decide)⟩
      show op16 _ = 25
      unfold op16
      repeat (first | rw [if_pos (by omega)] | rw [if_neg (by omega)])
    ·
      have b0 := fv_lt (off imm) 1048576 2 (by decide)
      have b1 := fv_lt cond 1 16 (by decide)
      have b2 := fv_lt (off imm) 4096 64 (by decide)
      have b3 := fv_lt (off imm) 262144 2 (by decide)
      have b4 := fv_lt (off imm) 524288 2 (by decide)
      have b5 := fv_lt (off imm) 2 2048 (by decide)
      have hs := size25w _ _ _ _ _ _ h
      have hn := num25w rd rn rm ra imm cond
      rw [hs, hn]
      clear hs hn
      refine ⟨fun e => absurd e (by decide), fun _ => ?_⟩
      show op32 _ _ = 125
      unfold op32
      repeat (first | rw [if_pos (by omega)] | rw [if_neg (by omega)])
theorem alike_fv (n : Int) (a b : Nat) (p q : Nat) (hp : (2 : Int) ^ a = (p : Int)) (hq : (2 : Int) ^ b = (q : Int)) (h : 0 ≤ n) : fv (alike n a b) 1 2 = if fv n p 2 = fv n q 2 then 1 else 0 := by
  obtain ⟨x, rfl⟩ := Int.eq_ofNat_of_zero_le h
  unfold alike
  rw [hp, hq]
  have e : ((x : Int) / (p : Int) % 2 = (x : Int) / (q : Int) % 2) ↔ (fv (x : Int) p 2 = fv (x : Int) q 2) := by
    unfold fv
    rw [Int.toNat_natCast, ← Int.natCast_ediv, ← Int.natCast_ediv]
    omega
  by_cases c : fv (x : Int) p 2 = fv (x : Int) q 2
  · rw [if_pos c, if_pos (e.2 c)]; rfl
  · rw [if_neg c, if_neg (fun z => c (e.1 z))]; rfl
set_option maxHeartbeats 4000000 in
theorem inj (i k : Ins) (hi : check i = 0) (hk : check k = 0) (ho : i.op = k.op) (hw : i.wide = k.wide) (hn : num i = num k) : i = k := by
  obtain ⟨op, rd, rn, rm, ra, imm, cond, wide⟩ := i
  obtain ⟨op', rd', rn', rm', ra', imm', cond', wide'⟩ := k
  simp only at ho hw
  subst ho hw
  rcases op_cases (op_range hi) with rfl | rfl | rfl | rfl | rfl | rfl | rfl | rfl | rfl | rfl | rfl | rfl | rfl | rfl | rfl | rfl | rfl | rfl | rfl | rfl | rfl | rfl | rfl | rfl | rfl
  ·
    rw [num1, num1] at hn
    rw [ok1] at hi hk
    exact Ins.ext' rfl (show rd = rd' by omega) (show rn = rn' by omega) (show rm = rm' by omega) (show ra = ra' by omega) (show imm = imm' by omega) (show cond = cond' by omega) rfl
  ·
    have b0 := fv_lt imm 1 256 (by decide)
    have b0' := fv_lt imm' 1 256 (by decide)
    rw [num2, num2] at hn
    rw [ok2] at hi hk
    have f0 : fv imm 1 256 = fv imm' 1 256 := by omega
    have r0 : imm.toNat = 1 * fv imm 1 256 := by unfold fv; omega
    have r0' : imm'.toNat = 1 * fv imm' 1 256 := by unfold fv; omega
    exact Ins.ext' rfl (show rd = rd' by omega) (show rn = rn' by omega) (show rm = rm' by omega) (show ra = ra' by omega) (show imm = imm' by omega) (show cond = cond' by omega) rfl
  ·
    have b0 := fv_lt imm 2048 2 (by decide)
    have b0' := fv_lt imm' 2048 2 (by decide)
    have b1 := fv_lt imm 4096 16 (by decide)
    have b1' := fv_lt imm' 4096 16 (by decide)
    have b2 := fv_lt imm 256 8 (by decide)
    have b2' := fv_lt imm' 256 8 (by decide)
    have b3 := fv_lt rd 1 16 (by decide)
    have b3' := fv_lt rd' 1 16 (by decide)
    have b4 := fv_lt imm 1 256 (by decide)
    have b4' := fv_lt imm' 1 256 (by decide)
    rw [num3, num3] at hn
    rw [ok3] at hi hk
    have f0 : fv imm 2048 2 = fv imm' 2048 2 := by omega
    have f1 : fv imm 4096 16 = fv imm' 4096 16 := by omega
    have f2 : fv imm 256 8 = fv imm' 256 8 := by omega
    have f3 : fv rd 1 16 = fv rd' 1 16 := by omega
    have f4 : fv imm 1 256 = fv imm' 1 256 := by omega
    have r0 : imm.toNat = 2048 * fv imm 2048 2 + 4096 * fv imm 4096 16 + 256 * fv imm 256 8 + 1 * fv imm 1 256 := by unfold fv; omega
    have r0' : imm'.toNat = 2048 * fv imm' 2048 2 + 4096 * fv imm' 4096 16 + 256 * fv imm' 256 8 + 1 * fv imm' 1 256 := by unfold fv; omega
    have r1 : rd.toNat = 1 * fv rd 1 16 := by unfold fv; omega
    have r1' : rd'.toNat = 1 * fv rd' 1 16 := by unfold fv; omega
    exact Ins.ext' rfl (show rd = rd' by omega) (show rn = rn' by omega) (show rm = rm' by omega) (show ra = ra' by omega) (show imm = imm' by omega) (show cond = cond' by omega) rfl
  ·
    have b0 := fv_lt imm 2048 2 (by decide)
    have b0' := fv_lt imm' 2048 2 (by decide)
    have b1 := fv_lt imm 4096 16 (by decide)
    have b1' := fv_lt imm' 4096 16 (by decide)
    have b2 := fv_lt imm 256 8 (by decide)
    have b2' := fv_lt imm' 256 8 (by decide)
    have b3 := fv_lt rd 1 16 (by decide)
    have b3' := fv_lt rd' 1 16 (by decide)
    have b4 := fv_lt imm 1 256 (by decide)
    have b4' := fv_lt imm' 1 256 (by decide)
    rw [num4, num4] at hn
    rw [ok4] at hi hk
    have f0 : fv imm 2048 2 = fv imm' 2048 2 := by omega
    have f1 : fv imm 4096 16 = fv imm' 4096 16 := by omega
    have f2 : fv imm 256 8 = fv imm' 256 8 := by omega
    have f3 : fv rd 1 16 = fv rd' 1 16 := by omega
    have f4 : fv imm 1 256 = fv imm' 1 256 := by omega
    have r0 : imm.toNat = 2048 * fv imm 2048 2 + 4096 * fv imm 4096 16 + 256 * fv imm 256 8 + 1 * fv imm 1 256 := by unfold fv; omega
    have r0' : imm'.toNat = 2048 * fv imm' 2048 2 + 4096 * fv imm' 4096 16 + 256 * fv imm' 256 8 + 1 * fv imm' 1 256 := by unfold fv; omega
    have r1 : rd.toNat = 1 * fv rd 1 16 := by unfold fv; omega
    have r1' : rd'.toNat = 1 * fv rd' 1 16 := by unfold fv; omega
    exact Ins.ext' rfl (show rd = rd' by omega) (show rn = rn' by omega) (show rm = rm' by omega) (show ra = ra' by omega) (show imm = imm' by omega) (show cond = cond' by omega) rfl
  ·
    have b0 := fv_lt imm 4 8 (by decide)
    have b0' := fv_lt imm' 4 8 (by decide)
    have b1 := fv_lt rd 1 16 (by decide)
    have b1' := fv_lt rd' 1 16 (by decide)
    have b2 := fv_lt imm 1 4 (by decide)
    have b2' := fv_lt imm' 1 4 (by decide)
    have b3 := fv_lt rm 1 16 (by decide)
    have b3' := fv_lt rm' 1 16 (by decide)
    rw [num5, num5] at hn
    rw [ok5] at hi hk
    have f0 : fv imm 4 8 = fv imm' 4 8 := by omega
    have f1 : fv rd 1 16 = fv rd' 1 16 := by omega
    have f2 : fv imm 1 4 = fv imm' 1 4 := by omega
    have f3 : fv rm 1 16 = fv rm' 1 16 := by omega
    have r0 : imm.toNat = 4 * fv imm 4 8 + 1 * fv imm 1 4 := by unfold fv; omega
    have r0' : imm'.toNat = 4 * fv imm' 4 8 + 1 * fv imm' 1 4 := by unfold fv; omega
    have r1 : rd.toNat = 1 * fv rd 1 16 := by unfold fv; omega
    have r1' : rd'.toNat = 1 * fv rd' 1 16 := by unfold fv; omega
    have r2 : rm.toNat = 1 * fv rm 1 16 := by unfold fv; omega
    have r2' : rm'.toNat = 1 * fv rm' 1 16 := by unfold fv; omega
    exact Ins.ext' rfl (show rd = rd' by omega) (show rn = rn' by omega) (show rm = rm' by omega) (show ra = ra' by omega) (show imm = imm' by omega) (show cond = cond' by omega) rfl
  ·
    have b0 := fv_lt imm 4 8 (by decide)
    have b0' := fv_lt imm' 4 8 (by decide)
    have b1 := fv_lt rd 1 16 (by decide)
    have b1' := fv_lt rd' 1 16 (by decide)
    have b2 := fv_lt imm 1 4 (by decide)
    have b2' := fv_lt imm' 1 4 (by decide)
    have b3 := fv_lt rm 1 16 (by decide)
    have b3' := fv_lt rm' 1 16 (by decide)
    rw [num6, num6] at hn
    rw [ok6] at hi hk
    have f0 : fv imm 4 8 = fv imm' 4 8 := by omega
    have f1 : fv rd 1 16 = fv rd' 1 16 := by omega
    have f2 : fv imm 1 4 = fv imm' 1 4 := by omega
    have f3 : fv rm 1 16 = fv rm' 1 16 := by omega
    have r0 : imm.toNat = 4 * fv imm 4 8 + 1 * fv imm 1 4 := by unfold fv; omega
    have r0' : imm'.toNat = 4 * fv imm' 4 8 + 1 * fv imm' 1 4 := by unfold fv; omega
    have r1 : rd.toNat = 1 * fv rd 1 16 := by unfold fv; omega
    have r1' : rd'.toNat = 1 * fv rd' 1 16 := by unfold fv; omega
    have r2 : rm.toNat = 1 * fv rm 1 16 := by unfold fv; omega
    have r2' : rm'.toNat = 1 * fv rm' 1 16 := by unfold fv; omega
    exact Ins.ext' rfl (show rd = rd' by omega) (show rn = rn' by omega) (show rm = rm' by omega) (show ra = ra' by omega) (show imm = imm' by omega) (show cond = cond' by omega) rfl
  ·
    have b0 := fv_lt imm 4 8 (by decide)
    have b0' := fv_lt imm' 4 8 (by decide)
    have b1 := fv_lt rd 1 16 (by decide)
    have b1' := fv_lt rd' 1 16 (by decide)
    have b2 := fv_lt imm 1 4 (by decide)
    have b2' := fv_lt imm' 1 4 (by decide)
    have b3 := fv_lt rm 1 16 (by decide)
    have b3' := fv_lt rm' 1 16 (by decide)
    rw [num7, num7] at hn
    rw [ok7] at hi hk
    have f0 : fv imm 4 8 = fv imm' 4 8 := by omega
    have f1 : fv rd 1 16 = fv rd' 1 16 := by omega
    have f2 : fv imm 1 4 = fv imm' 1 4 := by omega
    have f3 : fv rm 1 16 = fv rm' 1 16 := by omega
    have r0 : imm.toNat = 4 * fv imm 4 8 + 1 * fv imm 1 4 := by unfold fv; omega
    have r0' : imm'.toNat = 4 * fv imm' 4 8 + 1 * fv imm' 1 4 := by unfold fv; omega
    have r1 : rd.toNat = 1 * fv rd 1 16 := by unfold fv; omega
    have r1' : rd'.toNat = 1 * fv rd' 1 16 := by unfold fv; omega
    have r2 : rm.toNat = 1 * fv rm 1 16 := by unfold fv; omega
    have r2' : rm'.toNat = 1 * fv rm' 1 16 := by unfold fv; omega
    exact Ins.ext' rfl (show rd = rd' by omega) (show rn = rn' by omega) (show rm = rm' by omega) (show ra = ra' by omega) (show imm = imm' by omega) (show cond = cond' by omega) rfl
  ·
    have b0 := fv_lt imm 4 8 (by decide)
    have b0' := fv_lt imm' 4 8 (by decide)
    have b1 := fv_lt rd 1 16 (by decide)
    have b1' := fv_lt rd' 1 16 (by decide)
    have b2 := fv_lt imm 1 4 (by decide)
    have b2' := fv_lt imm' 1 4 (by decide)
    have b3 := fv_lt rm 1 16 (by decide)
    have b3' := fv_lt rm' 1 16 (by decide)
    rw [num8, num8] at hn
    rw [ok8] at hi hk
    have f0 : fv imm 4 8 = fv imm' 4 8 := by omega
    have f1 : fv rd 1 16 = fv rd' 1 16 := by omega
    have f2 : fv imm 1 4 = fv imm' 1 4 := by omega
    have f3 : fv rm 1 16 = fv rm' 1 16 := by omega
    have r0 : imm.toNat = 4 * fv imm 4 8 + 1 * fv imm 1 4 := by unfold fv; omega
    have r0' : imm'.toNat = 4 * fv imm' 4 8 + 1 * fv imm' 1 4 := by unfold fv; omega
    have r1 : rd.toNat = 1 * fv rd 1 16 := by unfold fv; omega
    have r1' : rd'.toNat = 1 * fv rd' 1 16 := by unfold fv; omega
    have r2 : rm.toNat = 1 * fv rm 1 16 := by unfold fv; omega
    have r2' : rm'.toNat = 1 * fv rm' 1 16 := by unfold fv; omega
    exact Ins.ext' rfl (show rd = rd' by omega) (show rn = rn' by omega) (show rm = rm' by omega) (show ra = ra' by omega) (show imm = imm' by omega) (show cond = cond' by omega) rfl
  ·
    have b0 := fv_lt rd 1 16 (by decide)
    have b0' := fv_lt rd' 1 16 (by decide)
    have b1 := fv_lt rm 1 16 (by decide)
    have b1' := fv_lt rm' 1 16 (by decide)
    rw [num9, num9] at hn
    rw [ok9] at hi hk
    have f0 : fv rd 1 16 = fv rd' 1 16 := by omega
    have f1 : fv rm 1 16 = fv rm' 1 16 := by omega
    have r0 : rd.toNat = 1 * fv rd 1 16 := by unfold fv; omega
    have r0' : rd'.toNat = 1 * fv rd' 1 16 := by unfold fv; omega
    have r1 : rm.toNat = 1 * fv rm 1 16 := by unfold fv; omega
    have r1' : rm'.toNat = 1 * fv rm' 1 16 := by unfold fv; omega
    exact Ins.ext' rfl (show rd = rd' by omega) (show rn = rn' by omega) (show rm = rm' by omega) (show ra = ra' by omega) (show imm = imm' by omega) (show cond = cond' by omega) rfl
  ·
    have b0 := fv_lt rn 1 16 (by decide)
    have b0' := fv_lt rn' 1 16 (by decide)
    have b1 := fv_lt rd 1 16 (by decide)
    have b1' := fv_lt rd' 1 16 (by decide)
    have b2 := fv_lt rm 1 16 (by decide)
    have b2' := fv_lt rm' 1 16 (by decide)
    rw [num10, num10] at hn
    rw [ok10] at hi hk
    have f0 : fv rn 1 16 = fv rn' 1 16 := by omega
    have f1 : fv rd 1 16 = fv rd' 1 16 := by omega
    have f2 : fv rm 1 16 = fv rm' 1 16 := by omega
    have r0 : rn.toNat = 1 * fv rn 1 16 := by unfold fv; omega
    have r0' : rn'.toNat = 1 * fv rn' 1 16 := by unfold fv; omega
    have r1 : rd.toNat = 1 * fv rd 1 16 := by unfold fv; omega
    have r1' : rd'.toNat = 1 * fv rd' 1 16 := by unfold fv; omega
    have r2 : rm.toNat = 1 * fv rm 1 16 := by unfold fv; omega
    have r2' : rm'.toNat = 1 * fv rm' 1 16 := by unfold fv; omega
    exact Ins.ext' rfl (show rd = rd' by omega) (show rn = rn' by omega) (show rm = rm' by omega) (show ra = ra' by omega) (show imm = imm' by omega) (show cond = cond' by omega) rfl
  ·
    have b0 := fv_lt rn 1 16 (by decide)
    have b0' := fv_lt rn' 1 16 (by decide)
    have b1 := fv_lt rd 1 16 (by decide)
    have b1' := fv_lt rd' 1 16 (by decide)
    have b2 := fv_lt rm 1 16 (by decide)
    have b2' := fv_lt rm' 1 16 (by decide)
    rw [num11, num11] at hn
    rw [ok11] at hi hk
    have f0 : fv rn 1 16 = fv rn' 1 16 := by omega
    have f1 : fv rd 1 16 = fv rd' 1 16 := by omega
    have f2 : fv rm 1 16 = fv rm' 1 16 := by omega
    have r0 : rn.toNat = 1 * fv rn 1 16 := by unfold fv; omega
    have r0' : rn'.toNat = 1 * fv rn' 1 16 := by unfold fv; omega
    have r1 : rd.toNat = 1 * fv rd 1 16 := by unfold fv; omega
    have r1' : rd'.toNat = 1 * fv rd' 1 16 := by unfold fv; omega
    have r2 : rm.toNat = 1 * fv rm 1 16 := by unfold fv; omega
    have r2' : rm'.toNat = 1 * fv rm' 1 16 := by unfold fv; omega
    exact Ins.ext' rfl (show rd = rd' by omega) (show rn = rn' by omega) (show rm = rm' by omega) (show ra = ra' by omega) (show imm = imm' by omega) (show cond = cond' by omega) rfl
  ·
    have b0 := fv_lt rn 1 16 (by decide)
    have b0' := fv_lt rn' 1 16 (by decide)
    have b1 := fv_lt rd 1 16 (by decide)
    have b1' := fv_lt rd' 1 16 (by decide)
    have b2 := fv_lt rm 1 16 (by decide)
    have b2' := fv_lt rm' 1 16 (by decide)
    rw [num12, num12] at hn
    rw [ok12] at hi hk
    have f0 : fv rn 1 16 = fv rn' 1 16 := by omega
    have f1 : fv rd 1 16 = fv rd' 1 16 := by omega
    have f2 : fv rm 1 16 = fv rm' 1 16 := by omega
    have r0 : rn.toNat = 1 * fv rn 1 16 := by unfold fv; omega
    have r0' : rn'.toNat = 1 * fv rn' 1 16 := by unfold fv; omega
    have r1 : rd.toNat = 1 * fv rd 1 16 := by unfold fv; omega
    have r1' : rd'.toNat = 1 * fv rd' 1 16 := by unfold fv; omega
    have r2 : rm.toNat = 1 * fv rm 1 16 := by unfold fv; omega
    have r2' : rm'.toNat = 1 * fv rm' 1 16 := by unfold fv; omega
    exact Ins.ext' rfl (show rd = rd' by omega) (show rn = rn' by omega) (show rm = rm' by omega) (show ra = ra' by omega) (show imm = imm' by omega) (show cond = cond' by omega) rfl
  ·
    have b0 := fv_lt rn 1 16 (by decide)
    have b0' := fv_lt rn' 1 16 (by decide)
    have b1 := fv_lt rd 1 16 (by decide)
    have b1' := fv_lt rd' 1 16 (by decide)
    have b2 := fv_lt rm 1 16 (by decide)
    have b2' := fv_lt rm' 1 16 (by decide)
    rw [num13, num13] at hn
    rw [ok13] at hi hk
    have f0 : fv rn 1 16 = fv rn' 1 16 := by omega
    have f1 : fv rd 1 16 = fv rd' 1 16 := by omega
    have f2 : fv rm 1 16 = fv rm' 1 16 := by omega
    have r0 : rn.toNat = 1 * fv rn 1 16 := by unfold fv; omega
    have r0' : rn'.toNat = 1 * fv rn' 1 16 := by unfold fv; omega
    have r1 : rd.toNat = 1 * fv rd 1 16 := by unfold fv; omega
    have r1' : rd'.toNat = 1 * fv rd' 1 16 := by unfold fv; omega
    have r2 : rm.toNat = 1 * fv rm 1 16 := by unfold fv; omega
    have r2' : rm'.toNat = 1 * fv rm' 1 16 := by unfold fv; omega
    exact Ins.ext' rfl (show rd = rd' by omega) (show rn = rn' by omega) (show rm = rm' by omega) (show ra = ra' by omega) (show imm = imm' by omega) (show cond = cond' by omega) rfl
  ·
    have b0 := fv_lt rn 1 16 (by decide)
    have b0' := fv_lt rn' 1 16 (by decide)
    have b1 := fv_lt rd 1 16 (by decide)
    have b1' := fv_lt rd' 1 16 (by decide)
    have b2 := fv_lt rm 1 16 (by decide)
    have b2' := fv_lt rm' 1 16 (by decide)
    rw [num14, num14] at hn
    rw [ok14] at hi hk
    have f0 : fv rn 1 16 = fv rn' 1 16 := by omega
    have f1 : fv rd 1 16 = fv rd' 1 16 := by omega
    have f2 : fv rm 1 16 = fv rm' 1 16 := by omega
    have r0 : rn.toNat = 1 * fv rn 1 16 := by unfold fv; omega
    have r0' : rn'.toNat = 1 * fv rn' 1 16 := by unfold fv; omega
    have r1 : rd.toNat = 1 * fv rd 1 16 := by unfold fv; omega
    have r1' : rd'.toNat = 1 * fv rd' 1 16 := by unfold fv; omega
    have r2 : rm.toNat = 1 * fv rm 1 16 := by unfold fv; omega
    have r2' : rm'.toNat = 1 * fv rm' 1 16 := by unfold fv; omega
    exact Ins.ext' rfl (show rd = rd' by omega) (show rn = rn' by omega) (show rm = rm' by omega) (show ra = ra' by omega) (show imm = imm' by omega) (show cond = cond' by omega) rfl
  ·
    have b0 := fv_lt rn 1 16 (by decide)
    have b0' := fv_lt rn' 1 16 (by decide)
    have b1 := fv_lt rd 1 16 (by decide)
    have b1' := fv_lt rd' 1 16 (by decide)
    have b2 := fv_lt rm 1 16 (by decide)
    have b2' := fv_lt rm' 1 16 (by decide)
    rw [num15, num15] at hn
    rw [ok15] at hi hk
    have f0 : fv rn 1 16 = fv rn' 1 16 := by omega
    have f1 : fv rd 1 16 = fv rd' 1 16 := by omega
    have f2 : fv rm 1 16 = fv rm' 1 16 := by omega
    have r0 : rn.toNat = 1 * fv rn 1 16 := by unfold fv; omega
    have r0' : rn'.toNat = 1 * fv rn' 1 16 := by unfold fv; omega
    have r1 : rd.toNat = 1 * fv rd 1 16 := by unfold fv; omega
    have r1' : rd'.toNat = 1 * fv rd' 1 16 := by unfold fv; omega
    have r2 : rm.toNat = 1 * fv rm 1 16 := by unfold fv; omega
    have r2' : rm'.toNat = 1 * fv rm' 1 16 := by unfold fv; omega
    exact Ins.ext' rfl (show rd = rd' by omega) (show rn = rn' by omega) (show rm = rm' by omega) (show ra = ra' by omega) (show imm = imm' by omega) (show cond = cond' by omega) rfl
  ·
    have b0 := fv_lt rn 1 16 (by decide)
    have b0' := fv_lt rn' 1 16 (by decide)
    have b1 := fv_lt rd 1 16 (by decide)
    have b1' := fv_lt rd' 1 16 (by decide)
    have b2 := fv_lt rm 1 16 (by decide)
    have b2' := fv_lt rm' 1 16 (by decide)
    rw [num16, num16] at hn
    rw [ok16] at hi hk
    have f0 : fv rn 1 16 = fv rn' 1 16 := by omega
    have f1 : fv rd 1 16 = fv rd' 1 16 := by omega
    have f2 : fv rm 1 16 = fv rm' 1 16 := by omega
    have r0 : rn.toNat = 1 * fv rn 1 16 := by unfold fv; omega
    have r0' : rn'.toNat = 1 * fv rn' 1 16 := by unfold fv; omega
    have r1 : rd.toNat = 1 * fv rd 1 16 := by unfold fv; omega
    have r1' : rd'.toNat = 1 * fv rd' 1 16 := by unfold fv; omega
    have r2 : rm.toNat = 1 * fv rm 1 16 := by unfold fv; omega
    have r2' : rm'.toNat = 1 * fv rm' 1 16 := by unfold fv; omega
    exact Ins.ext' rfl (show rd = rd' by omega) (show rn = rn' by omega) (show rm = rm' by omega) (show ra = ra' by omega) (show imm = imm' by omega) (show cond = cond' by omega) rfl
  ·
    have b0 := fv_lt rn 1 16 (by decide)
    have b0' := fv_lt rn' 1 16 (by decide)
    have b1 := fv_lt rd 1 16 (by decide)
    have b1' := fv_lt rd' 1 16 (by decide)
    have b2 := fv_lt ra 1 16 (by decide)
    have b2' := fv_lt ra' 1 16 (by decide)
    have b3 := fv_lt rm 1 16 (by decide)
    have b3' := fv_lt rm' 1 16 (by decide)
    rw [num17, num17] at hn
    rw [ok17] at hi hk
    have f0 : fv rn 1 16 = fv rn' 1 16 := by omega
    have f1 : fv rd 1 16 = fv rd' 1 16 := by omega
    have f2 : fv ra 1 16 = fv ra' 1 16 := by omega
    have f3 : fv rm 1 16 = fv rm' 1 16 := by omega
    have r0 : rn.toNat = 1 * fv rn 1 16 := by unfold fv; omega
    have r0' : rn'.toNat = 1 * fv rn' 1 16 := by unfold fv; omega
    have r1 : rd.toNat = 1 * fv rd 1 16 := by unfold fv; omega
    have r1' : rd'.toNat = 1 * fv rd' 1 16 := by unfold fv; omega
    have r2 : ra.toNat = 1 * fv ra 1 16 := by unfold fv; omega
    have r2' : ra'.toNat = 1 * fv ra' 1 16 := by unfold fv; omega
    have r3 : rm.toNat = 1 * fv rm 1 16 := by unfold fv; omega
    have r3' : rm'.toNat = 1 * fv rm' 1 16 := by unfold fv; omega
    exact Ins.ext' rfl (show rd = rd' by omega) (show rn = rn' by omega) (show rm = rm' by omega) (show ra = ra' by omega) (show imm = imm' by omega) (show cond = cond' by omega) rfl
  ·
    have b0 := fv_lt rn 1 16 (by decide)
    have b0' := fv_lt rn' 1 16 (by decide)
    have b1 := fv_lt imm 4 8 (by decide)
    have b1' := fv_lt imm' 4 8 (by decide)
    have b2 := fv_lt rd 1 16 (by decide)
    have b2' := fv_lt rd' 1 16 (by decide)
    have b3 := fv_lt imm 1 4 (by decide)
    have b3' := fv_lt imm' 1 4 (by decide)
    have b4 := fv_lt (imm + ra - 1) 1 32 (by decide)
    have b4' := fv_lt (imm' + ra' - 1) 1 32 (by decide)
    rw [num18, num18] at hn
    rw [ok18] at hi hk
    have f0 : fv rn 1 16 = fv rn' 1 16 := by omega
    have f1 : fv imm 4 8 = fv imm' 4 8 := by omega
    have f2 : fv rd 1 16 = fv rd' 1 16 := by omega
    have f3 : fv imm 1 4 = fv imm' 1 4 := by omega
    have f4 : fv (imm + ra - 1) 1 32 = fv (imm' + ra' - 1) 1 32 := by omega
    have r0 : rn.toNat = 1 * fv rn 1 16 := by unfold fv; omega
    have r0' : rn'.toNat = 1 * fv rn' 1 16 := by unfold fv; omega
    have r1 : imm.toNat = 4 * fv imm 4 8 + 1 * fv imm 1 4 := by unfold fv; omega
    have r1' : imm'.toNat = 4 * fv imm' 4 8 + 1 * fv imm' 1 4 := by unfold fv; omega
    have r2 : rd.toNat = 1 * fv rd 1 16 := by unfold fv; omega
    have r2' : rd'.toNat = 1 * fv rd' 1 16 := by unfold fv; omega
    have r3 : (imm + ra - 1).toNat = 1 * fv (imm + ra - 1) 1 32 := by unfold fv; omega
    have r3' : (imm' + ra' - 1).toNat = 1 * fv (imm' + ra' - 1) 1 32 := by unfold fv; omega
    exact Ins.ext' rfl (show rd = rd' by omega) (show rn = rn' by omega) (show rm = rm' by omega) (show ra = ra' by omega) (show imm = imm' by omega) (show cond = cond' by omega) rfl
  ·
    have b0 := fv_lt rn 1 8 (by decide)
    have b0' := fv_lt rn' 1 8 (by decide)
    have b1 := fv_lt rd 1 8 (by decide)
    have b1' := fv_lt rd' 1 8 (by decide)
    rw [num19, num19] at hn
    rw [ok19] at hi hk
    have f0 : fv rn 1 8 = fv rn' 1 8 := by omega
    have f1 : fv rd 1 8 = fv rd' 1 8 := by omega
    have r0 : rn.toNat = 1 * fv rn 1 8 := by unfold fv; omega
    have r0' : rn'.toNat = 1 * fv rn' 1 8 := by unfold fv; omega
    have r1 : rd.toNat = 1 * fv rd 1 8 := by unfold fv; omega
    have r1' : rd'.toNat = 1 * fv rd' 1 8 := by unfold fv; omega
    exact Ins.ext' rfl (show rd = rd' by omega) (show rn = rn' by omega) (show rm = rm' by omega) (show ra = ra' by omega) (show imm = imm' by omega) (show cond = cond' by omega) rfl
  ·
    have b0 := fv_lt rn 1 8 (by decide)
    have b0' := fv_lt rn' 1 8 (by decide)
    have b1 := fv_lt rd 1 8 (by decide)
    have b1' := fv_lt rd' 1 8 (by decide)
    rw [num20, num20] at hn
    rw [ok20] at hi hk
    have f0 : fv rn 1 8 = fv rn' 1 8 := by omega
    have f1 : fv rd 1 8 = fv rd' 1 8 := by omega
    have r0 : rn.toNat = 1 * fv rn 1 8 := by unfold fv; omega
    have r0' : rn'.toNat = 1 * fv rn' 1 8 := by unfold fv; omega
    have r1 : rd.toNat = 1 * fv rd 1 8 := by unfold fv; omega
    have r1' : rd'.toNat = 1 * fv rd' 1 8 := by unfold fv; omega
    exact Ins.ext' rfl (show rd = rd' by omega) (show rn = rn' by omega) (show rm = rm' by omega) (show ra = ra' by omega) (show imm = imm' by omega) (show cond = cond' by omega) rfl
  ·
    have b0 := fv_lt rn 1 8 (by decide)
    have b0' := fv_lt rn' 1 8 (by decide)
    have b1 := fv_lt rd 1 8 (by decide)
    have b1' := fv_lt rd' 1 8 (by decide)
    rw [num21, num21] at hn
    rw [ok21] at hi hk
    have f0 : fv rn 1 8 = fv rn' 1 8 := by omega
    have f1 : fv rd 1 8 = fv rd' 1 8 := by omega
    have r0 : rn.toNat = 1 * fv rn 1 8 := by unfold fv; omega
    have r0' : rn'.toNat = 1 * fv rn' 1 8 := by unfold fv; omega
    have r1 : rd.toNat = 1 * fv rd 1 8 := by unfold fv; omega
    have r1' : rd'.toNat = 1 * fv rd' 1 8 := by unfold fv; omega
    exact Ins.ext' rfl (show rd = rd' by omega) (show rn = rn' by omega) (show rm = rm' by omega) (show ra = ra' by omega) (show imm = imm' by omega) (show cond = cond' by omega) rfl
  ·
    have b0 := fv_lt rn 1 8 (by decide)
    have b0' := fv_lt rn' 1 8 (by decide)
    have b1 := fv_lt rd 1 8 (by decide)
    have b1' := fv_lt rd' 1 8 (by decide)
    rw [num22, num22] at hn
    rw [ok22] at hi hk
    have f0 : fv rn 1 8 = fv rn' 1 8 := by omega
    have f1 : fv rd 1 8 = fv rd' 1 8 := by omega
    have r0 : rn.toNat = 1 * fv rn 1 8 := by unfold fv; omega
    have r0' : rn'.toNat = 1 * fv rn' 1 8 := by unfold fv; omega
    have r1 : rd.toNat = 1 * fv rd 1 8 := by unfold fv; omega
    have r1' : rd'.toNat = 1 * fv rd' 1 8 := by unfold fv; omega
    exact Ins.ext' rfl (show rd = rd' by omega) (show rn = rn' by omega) (show rm = rm' by omega) (show ra = ra' by omega) (show imm = imm' by omega) (show cond = cond' by omega) rfl
  ·
    have b0 := fv_lt rm 1 8 (by decide)
    have b0' := fv_lt rm' 1 8 (by decide)
    have b1 := fv_lt rn 1 8 (by decide)
    have b1' := fv_lt rn' 1 8 (by decide)
    rw [num23, num23] at hn
    rw [ok23] at hi hk
    have f0 : fv rm 1 8 = fv rm' 1 8 := by omega
    have f1 : fv rn 1 8 = fv rn' 1 8 := by omega
    have r0 : rm.toNat = 1 * fv rm 1 8 := by unfold fv; omega
    have r0' : rm'.toNat = 1 * fv rm' 1 8 := by unfold fv; omega
    have r1 : rn.toNat = 1 * fv rn 1 8 := by unfold fv; omega
    have r1' : rn'.toNat = 1 * fv rn' 1 8 := by unfold fv; omega
    exact Ins.ext' rfl (show rd = rd' by omega) (show rn = rn' by omega) (show rm = rm' by omega) (show ra = ra' by omega) (show imm = imm' by omega) (show cond = cond' by omega) rfl
  · cases wide
    ·
      have b0 := fv_lt (off imm) 2 2048 (by decide)
      have b0' := fv_lt (off imm') 2 2048 (by decide)
      rw [num24n, num24n] at hn
      rw [ok24] at hi hk
      have f0 : fv (off imm) 2 2048 = fv (off imm') 2 2048 := by omega
      simp at hi hk
      have r : imm = (if fv (off imm) 2 2048 < 1024 then 2 * (fv (off imm) 2 2048 : Int) else 2 * (fv (off imm) 2 2048 : Int) - 4096) := by unfold fv off; split <;> split <;> omega
      have r' : imm' = (if fv (off imm') 2 2048 < 1024 then 2 * (fv (off imm') 2 2048 : Int) else 2 * (fv (off imm') 2 2048 : Int) - 4096) := by unfold fv off; split <;> split <;> omega
      have ri : imm = imm' := by rw [r, r', f0]
      exact Ins.ext' rfl (show rd = rd' by omega) (show rn = rn' by omega) (show rm = rm' by omega) (show ra = ra' by omega) (show imm = imm' by omega) (show cond = cond' by omega) rfl
    ·
      have b0 := fv_lt (off imm) 16777216 2 (by decide)
      have b0' := fv_lt (off imm') 16777216 2 (by decide)
      have b1 := fv_lt (off imm) 4096 1024 (by decide)
      have b1' := fv_lt (off imm') 4096 1024 (by decide)
      have b2 := fv_lt (alike (off imm) 23 24) 1 2 (by decide)
      have b2' := fv_lt (alike (off imm') 23 24) 1 2 (by decide)
      have b3 := fv_lt (alike (off imm) 22 24) 1 2 (by decide)
      have b3' := fv_lt (alike (off imm') 22 24) 1 2 (by decide)
      have b4 := fv_lt (off imm) 2 2048 (by decide)
      have b4' := fv_lt (off imm') 2 2048 (by decide)
      rw [num24w, num24w] at hn
      rw [ok24] at hi hk
      have f0 : fv (off imm) 16777216 2 = fv (off imm') 16777216 2 := by omega
      have f1 : fv (off imm) 4096 1024 = fv (off imm') 4096 1024 := by omega
      have f2 : fv (alike (off imm) 23 24) 1 2 = fv (alike (off imm') 23 24) 1 2 := by omega
      have f3 : fv (alike (off imm) 22 24) 1 2 = fv (alike (off imm') 22 24) 1 2 := by omega
      have f4 : fv (off imm) 2 2048 = fv (off imm') 2 2048 := by omega
      simp at hi hk
      have ho := off_bd imm (by omega)
      have a23 := alike_fv (off imm) 23 24 8388608 16777216 (by decide) (by decide) ho.1
      have a22 := alike_fv (off imm) 22 24 4194304 16777216 (by decide) (by decide) ho.1
      have c23 := fv_lt (off imm) 8388608 2 (by decide)
      have c22 := fv_lt (off imm) 4194304 2 (by decide)
      have r : imm = 2 * (fv (off imm) 2 2048 : Int) + 4096 * (fv (off imm) 4096 1024 : Int) + 4194304 * (fv (off imm) 4194304 2 : Int) + 8388608 * (fv (off imm) 8388608 2 : Int) - 16777216 * (fv (off imm) 16777216 2 : Int) := by clear a22 a23; unfold fv off; split <;> omega
      have ho' := off_bd imm' (by omega)
      have a23' := alike_fv (off imm') 23 24 8388608 16777216 (by decide) (by decide) ho'.1
      have a22' := alike_fv (off imm') 22 24 4194304 16777216 (by decide) (by decide) ho'.1
      have c23' := fv_lt (off imm') 8388608 2 (by decide)
      have c22' := fv_lt (off imm') 4194304 2 (by decide)
      have r' : imm' = 2 * (fv (off imm') 2 2048 : Int) + 4096 * (fv (off imm') 4096 1024 : Int) + 4194304 * (fv (off imm') 4194304 2 : Int) + 8388608 * (fv (off imm') 8388608 2 : Int) - 16777216 * (fv (off imm') 16777216 2 : Int) := by clear a22 a23 a22' a23'; unfold fv off; split <;> omega
      have g23 : fv (off imm) 8388608 2 = fv (off imm') 8388608 2 := by split at a23 <;> split at a23' <;> omega
      have g22 : fv (off imm) 4194304 2 = fv (off imm') 4194304 2 := by split at a22 <;> split at a22' <;> omega
      clear a22 a22' a23 a23'
      exact Ins.ext' rfl (show rd = rd' by omega) (show rn = rn' by omega) (show rm = rm' by omega) (show ra = ra' by omega) (show imm = imm' by omega) (show cond = cond' by omega) rfl
  · cases wide
    ·
      have b0 := fv_lt cond 1 16 (by decide)
      have b0' := fv_lt cond' 1 16 (by decide)
      have b1 := fv_lt (off imm) 2 256 (by decide)
      have b1' := fv_lt (off imm') 2 256 (by decide)
      rw [num25n, num25n] at hn
      rw [ok25] at hi hk
      have f0 : fv cond 1 16 = fv cond' 1 16 := by omega
      have f1 : fv (off imm) 2 256 = fv (off imm') 2 256 := by omega
      simp at hi hk
      have r : imm = (if fv (off imm) 2 256 < 128 then 2 * (fv (off imm) 2 256 : Int) else 2 * (fv (off imm) 2 256 : Int) - 512) := by unfold fv off; split <;> split <;> omega
      have r' : imm' = (if fv (off imm') 2 256 < 128 then 2 * (fv (off imm') 2 256 : Int) else 2 * (fv (off imm') 2 256 : Int) - 512) := by unfold fv off; split <;> split <;> omega
      have ri : imm = imm' := by rw [r, r', f1]
      have rc : cond.toNat = fv cond 1 16 := by unfold fv; omega
      have rc' : cond'.toNat = fv cond' 1 16 := by unfold fv; omega
      exact Ins.ext' rfl (show rd = rd' by omega) (show rn = rn' by omega) (show rm = rm' by omega) (show ra = ra' by omega) (show imm = imm' by omega) (show cond = cond' by omega) rfl
    ·
      have b0 := fv_lt (off imm) 1048576 2 (by decide)
      have b0' := fv_lt (off imm') 1048576 2 (by decide)
      have b1 := fv_lt cond 1 16 (by decide)
      have b1' := fv_lt cond' 1 16 (by decide)
      have b2 := fv_lt (off imm) 4096 64 (by decide)
      have b2' := fv_lt (off imm') 4096 64 (by decide)
      have b3 := fv_lt (off imm) 262144 2 (by decide)
      have b3' := fv_lt (off imm') 262144 2 (by decide)
      have b4 := fv_lt (off imm) 524288 2 (by decide)
      have b4' := fv_lt (off imm') 524288 2 (by decide)
      have b5 := fv_lt (off imm) 2 2048 (by decide)
      have b5' := fv_lt (off imm') 2 2048 (by decide)
      rw [num25w, num25w] at hn
      rw [ok25] at hi hk
      have f0 : fv (off imm) 1048576 2 = fv (off imm') 1048576 2 := by omega
      have f1 : fv cond 1 16 = fv cond' 1 16 := by omega
      have f2 : fv (off imm) 4096 64 = fv (off imm') 4096 64 := by omega
      have f3 : fv (off imm) 262144 2 = fv (off imm') 262144 2 := by omega
      have f4 : fv (off imm) 524288 2 = fv (off imm') 524288 2 := by omega
      have f5 : fv (off imm) 2 2048 = fv (off imm') 2 2048 := by omega
      simp at hi hk
      have r : imm = 2 * (fv (off imm) 2 2048 : Int) + 4096 * (fv (off imm) 4096 64 : Int) + 262144 * (fv (off imm) 262144 2 : Int) + 524288 * (fv (off imm) 524288 2 : Int) - 1048576 * (fv (off imm) 1048576 2 : Int) := by unfold fv off; split <;> omega
      have r' : imm' = 2 * (fv (off imm') 2 2048 : Int) + 4096 * (fv (off imm') 4096 64 : Int) + 262144 * (fv (off imm') 262144 2 : Int) + 524288 * (fv (off imm') 524288 2 : Int) - 1048576 * (fv (off imm') 1048576 2 : Int) := by unfold fv off; split <;> omega
      have rc : cond.toNat = fv cond 1 16 := by unfold fv; omega
      have rc' : cond'.toNat = fv cond' 1 16 := by unfold fv; omega
      exact Ins.ext' rfl (show rd = rd' by omega) (show rn = rn' by omega) (show rm = rm' by omega) (show ra = ra' by omega) (show imm = imm' by omega) (show cond = cond' by omega) rfl
end Go.Proofs.Ytennhpfhgbmnfaa.Th
