import Derived.Test.YtcgmcdelgfemkaaEM12
import Derived.Test.YtcgmcdelgfemkaaEL0
import Derived.Test.YtcgmcdelgfemkaaRG1
namespace Go.Proofs.Ytcgmcdelgfemkaa
open Go.RowKit

def idF (n : Nat) : Int := kidN 1 ((pf 30 4 n 1000000007 1 : Nat) : Int) 0
theorem gp_pf (n : Nat) (h : n < 1073741824) : gp 4 (n : Int) = ((pf 30 4 n 1000000007 1 : Nat) : Int) := by
  rw [pf_is 30 4 n 1000000007 1 h (by decide), Nat.one_mul]
  unfold gp pw
  rw [Int.toNat_natCast]
  simp
theorem idX_nat (n : Nat) (h : n < 1073741824) : idX (n : Int) = idF n := by
  unfold idX kidP idF
  rw [gp_pf n h]
/-- The secrets of the law: 5, and 7000 + 313 i. -/
def sxN : Nat → Nat
  | 0 => 5
  | i + 1 => 7000 + 313 * i
def kidLits : List Int := [10353087352563048022, 7189112447881680697, 12746872842622557674, 2626163382042540347, 1435439387287122656, 2000866538115487835, 13844717810683150184, 1437709695931247582, 7329132289512648343, 8595514554417160969, 1152211611344143525, 12380440756055769794, 11783470940499450246, 14988176011338311348, 11465333894437008537, 18050523483026763304, 13157907907067269483, 16560111579222688598, 6286406111940646455, 6759154428363571890, 17761140321729465271, 16844938439952267966, 2622422008915363015, 7704710988353651095, 15048270868032425497, 2543380642110094810, 9984081967730397910, 9462159683062818094, 7009244643549178876, 7329554521398239950, 8779061080031899330, 14867672399815311098, 1057745053697563422, 6903268622013905557, 262190498298579895, 7394872779687019947, 6000556344772872029, 6507498641736065968, 8159500488807760411, 5633650480017675360, 11727207839725581224, 16333580441805894223, 7339789622182111453, 14603467799568631427, 13636270215805008349, 686766420207076353, 7242074315476387196, 11325802425947179437, 7449572932783705743, 1126915533483023950, 3666574899327173610, 12321990442315425215, 1247461408457066056, 6280876137091957228, 4063484131418140826, 8354755183180884362, 12235255820277049887, 4847005986238663309, 3569292428224299954, 10010056873056733597, 2282261906252674563]
theorem kid_lits : (List.range 61).map (fun i => idF (sxN i)) = kidLits := by decide +kernel
theorem lits_nodup : kidLits.Pairwise (· ≠ ·) := by decide +kernel
theorem sx_ne (i j : Nat) (hi : i < 61) (hj : j < 61) (h : i ≠ j) : idF (sxN i) ≠ idF (sxN j) := by
  have hN := lits_nodup
  rw [← kid_lits, List.pairwise_iff_getElem] at hN
  rcases Nat.lt_or_gt_of_ne h with h1 | h1
  · have := hN i j (by simpa using hi) (by simpa using hj) h1
    simpa using this
  · have := hN j i (by simpa using hj) (by simpa using hi) h1
    exact fun e => by
      have t : idF (sxN j) ≠ idF (sxN i) := by simpa using this
      exact t e.symm
theorem sxN_lt (i : Nat) (h : i < 61) : 1 ≤ sxN i ∧ sxN i ≤ 26000 := by
  cases i with
  | zero => decide
  | succ i => show 1 ≤ 7000 + 313 * i ∧ 7000 + 313 * i ≤ 26000; omega
theorem idX_ne (i j : Nat) (hi : i < 61) (hj : j < 61) (h : i ≠ j) : idX (sxN i : Nat) ≠ idX (sxN j : Nat) := by
  rw [idX_nat _ (by have := sxN_lt i hi; omega), idX_nat _ (by have := sxN_lt j hj; omega)]
  exact sx_ne i j hi hj h
theorem sx_sec (i : Nat) (h : i < 61) : secP ((sxN i : Nat) : Int) := by have := sxN_lt i h; exact ⟨by omega, by omega⟩
theorem gp_comm (x y : Int) : gp (gp 4 x) y = gp (gp 4 y) x := by
  unfold gp
  rw [pw_mul, pw_mul, Nat.mul_comm]
theorem xorU_back (k m : Int) (hk : U64 k) (hm : U64 m) : bits .xor .u64 (bits .xor .u64 k m) m = k := by
  obtain ⟨K, rfl⟩ := Int.eq_ofNat_of_zero_le hk.1
  obtain ⟨M, rfl⟩ := Int.eq_ofNat_of_zero_le hm.1
  have h1 := hk.2
  have h2 := hm.2
  have hl : K ^^^ M < 2 ^ 64 := Nat.xor_lt_two_pow (by omega) (by omega)
  rw [u64_xor_nat K M (by omega) (by omega), u64_xor_nat _ M (by omega) (by omega), Nat.xor_assoc, Nat.xor_self, Nat.xor_zero]
theorem ctN_bd (eph : Int) (bs : List Int) : U64 (ctN eph bs) := triN_bd _ _ _
theorem wrN_bd (sh id : Int) : U64 (wrN sh id) := triN_bd _ _ _
def pubX (x : Int) : Int × Int × Int := (1, gp 4 x, 0)
theorem grp_pubX (x : Int) (h : secP x) : grpK (pubX x) := ⟨rfl, .inl ⟨rfl, keyP_of x h, rfl⟩⟩
theorem seal_pos (bs : List Int) (ps : List (Int × Int × Int)) (eph x : Int) (j : Nat) (hj : j < ps.length) (hp : ps.getD j (0, 0, 0) = pubX x) (hf : ∀ i, i < j → kidP (ps.getD i (0, 0, 0)) ≠ idX x) : PosW (sealT bs ps eph).ws (idX x) j := by
  have hg : ∀ i, i < ps.length → (sealT bs ps eph).ws.getD i (0, 0) = wrapP (ctN eph bs) eph (ps.getD i (0, 0, 0)) := fun i hi => by
    show (ps.map _).getD i (0, 0) = _
    simp [hi]
  refine ⟨by show j < (ps.map _).length; rw [List.length_map]; exact hj, ?_, fun i hi => ?_⟩
  · rw [hg j hj, hp]; rfl
  · rw [hg i (by omega)]; exact hf i hi
theorem seal_key (bs : List Int) (ps : List (Int × Int × Int)) (eph x : Int) (j : Nat) (hj : j < ps.length) (hp : ps.getD j (0, 0, 0) = pubX x) : keyV (sealT bs ps eph).eph x ((sealT bs ps eph).ws.getD j (0, 0)).2 = ctN eph bs := by
  have e : (sealT bs ps eph).ws.getD j (0, 0) = wrapP (ctN eph bs) eph (pubX x) := by
    show (ps.map _).getD j (0, 0) = _
    rw [← hp]
    simp [hj]
  rw [e]
  show bits .xor .u64 (bits .xor .u64 (ctN eph bs) (wrN (gp (gp 4 x) eph) (kidP (pubX x)))) (wrN (gp (gp 4 eph) x) (idX x)) = _
  rw [gp_comm x eph]
  exact xorU_back _ _ (ctN_bd _ _) (wrN_bd _ _)
theorem seal_open (bs : List Int) (ps : List (Int × Int × Int)) (eph x : Int) (hs : secP eph) (hx : secP x) (hb : ∀ i, 0 ≤ bs.getD i 0 ∧ bs.getD i 0 ≤ 255) (hn : bs.length ≤ 4000) (j : Nat) (hj : j < ps.length) (hp : ps.getD j (0, 0, 0) = pubX x) (hf : ∀ i, i < j → kidP (ps.getD i (0, 0, 0)) ≠ idX x) :
    openR (sealT bs ps eph).eph (sealT bs ps eph).ws (sealT bs ps eph).bs (sealT bs ps eph).tg x = (bs, 0) := by
  unfold openR
  rw [if_pos ⟨hx, keyP_of eph hs⟩, find_pos _ _ j (seal_pos bs ps eph x j hj hp hf)]
  show (if (sealT bs ps eph).bs.length ≤ 4000 ∧ (sealT bs ps eph).tg = tagN (keyV (sealT bs ps eph).eph x ((sealT bs ps eph).ws.getD j (0, 0)).2) (sealT bs ps eph).bs then _ else _) = _
  rw [seal_key bs ps eph x j hj hp, if_pos ⟨by show (maskL _ bs).length ≤ 4000; rw [maskL_lenE]; exact hn, rfl⟩]
  show (maskL (ctN eph bs) (maskL (ctN eph bs) bs), (0 : Int)) = _
  rw [mask_twice _ _ hb]
theorem seal_turned (bs : List Int) (ps : List (Int × Int × Int)) (eph x : Int) (hs : secP eph) (hx : secP x) (hb : ∀ i, 0 ≤ (sealT bs ps eph).bs.getD i 0 ∧ (sealT bs ps eph).bs.getD i 0 ≤ 255) (j : Nat) (hj : j < ps.length) (hp : ps.getD j (0, 0, 0) = pubX x) (hf : ∀ i, i < j → kidP (ps.getD i (0, 0, 0)) ≠ idX x) (i : Nat) (hi : i < (sealT bs ps eph).bs.length) (y : Int) (hy : 0 ≤ y ∧ y ≤ 255) (hne : (sealT bs ps eph).bs.getD i 0 ≠ y) :
    openR (sealT bs ps eph).eph (sealT bs ps eph).ws ((sealT bs ps eph).bs.set i y) (sealT bs ps eph).tg x = ([], 2) := by
  unfold openR
  rw [if_pos ⟨hx, keyP_of eph hs⟩, find_pos _ _ j (seal_pos bs ps eph x j hj hp hf)]
  show (if ((sealT bs ps eph).bs.set i y).length ≤ 4000 ∧ (sealT bs ps eph).tg = tagN (keyV (sealT bs ps eph).eph x ((sealT bs ps eph).ws.getD j (0, 0)).2) ((sealT bs ps eph).bs.set i y) then _ else _) = _
  rw [seal_key bs ps eph x j hj hp, if_neg]
  intro h
  exact tag_turned (ctN eph bs) (sealT bs ps eph).bs hb i hi y hy hne h.2.symm
theorem seal_none (bs : List Int) (ps : List (Int × Int × Int)) (eph x : Int) (hf : ∀ i, i < ps.length → kidP (ps.getD i (0, 0, 0)) ≠ idX x) : openR (sealT bs ps eph).eph (sealT bs ps eph).ws (sealT bs ps eph).bs (sealT bs ps eph).tg x = ([], 1) := by
  have hno : NoW (sealT bs ps eph).ws (idX x) (sealT bs ps eph).ws.length := by
    intro i hi
    have hl : (sealT bs ps eph).ws.length = ps.length := List.length_map _
    rw [hl] at hi
    have e : (sealT bs ps eph).ws.getD i (0, 0) = wrapP (ctN eph bs) eph (ps.getD i (0, 0, 0)) := by
      show (ps.map _).getD i (0, 0) = _
      simp [hi]
    rw [e]; exact hf i hi
  unfold openR
  split
  · rw [find_no _ _ hno]
  · rfl

end Go.Proofs.Ytcgmcdelgfemkaa
