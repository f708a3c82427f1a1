import Derived.Test.YtgaheamgkaipnaaMB
import Derived.Test.YtgaheamgkaipnaaMA
import Derived.Test.YtgaheamgkaipnaaMC
import Derived.Test.YtgaheamgkaipnaaTS2
namespace Go.Proofs.Ytgaheamgkaipnaa
open Go.RowKit

theorem getL_putS (n c : Nat) (hn : n < 9223372036854775808) (rest : List Int) : ∀ d, 1 ≤ d → d ≤ c → ∀ p : Int, getL ((putL n c).drop (c - d) ++ rest) ((n / 128 ^ d : Nat) : Int) p = ((n : Int), p + d, 0) := by
  intro d
  induction d with
  | zero => intro h; omega
  | succ d ih =>
    intro _ hd p
    have hlt : c - (d + 1) < (putL n c).length := by rw [putL_len]; omega
    have hget : (putL n c).getD (c - (d + 1)) 0 = grp n c (c - (d + 1)) := by simp [putL, show c - (d + 1) < c by omega]
    have hcons : (putL n c).drop (c - (d + 1)) ++ rest = grp n c (c - (d + 1)) :: ((putL n c).drop (c - d) ++ rest) := by
      rw [drop_cons hlt, hget, show c - (d + 1) + 1 = c - d by omega]; rfl
    rw [hcons, getL]
    have hbig : ¬ (72057594037927936 : Int) ≤ ((n / 128 ^ (d + 1) : Nat) : Int) := by
      have h1 : n / 128 ^ (d + 1) ≤ n / 128 := by
        rw [show (128 : Nat) ^ (d + 1) = 128 * 128 ^ d by rw [Nat.pow_succ, Nat.mul_comm], ← Nat.div_div_eq_div_mul]
        exact Nat.div_le_self _ _
      omega
    rw [if_neg hbig]
    have hexp : c - 1 - (c - (d + 1)) = d := by omega
    have hstep : n / 128 ^ (d + 1) = n / 128 ^ d / 128 := (div_next n d).symm
    by_cases h0 : d = 0
    · subst h0
      have hg : grp n c (c - (0 + 1)) = ((n % 128 : Nat) : Int) := by
        unfold grp; rw [if_pos (by omega), hexp]; simp
      rw [hg, if_pos (by omega)]
      have : ((n / 128 ^ (0 + 1) : Nat) : Int) * 128 + ((n % 128 : Nat) : Int) % 128 = n := by
        rw [show (128 : Nat) ^ (0 + 1) = 128 from rfl]; omega
      rw [this]; simp
    · have hg : grp n c (c - (d + 1)) = ((n / 128 ^ d % 128 : Nat) : Int) + 128 := by
        unfold grp; rw [if_neg (by omega), hexp]
      rw [hg, if_neg (by omega)]
      have e : ((n / 128 ^ (d + 1) : Nat) : Int) * 128 + (((n / 128 ^ d % 128 : Nat) : Int) + 128) % 128 = ((n / 128 ^ d : Nat) : Int) := by
        rw [hstep]; omega
      rw [e, ih (by omega) (by omega) (p + 1)]
      simp; omega
theorem putN_len_posS (n : Nat) : 1 ≤ (putN n).length := by rw [putN, putL_len]; exact (cnt_ok n).pos
theorem getL_putNS (n : Nat) (hn : n < 9223372036854775808) (rest : List Int) (p : Int) : getL (putN n ++ rest) 0 p = ((n : Int), p + (putN n).length, 0) := by
  have hc := cnt_ok n
  have h := getL_putS n (cnt n) hn rest (cnt n) hc.pos (Nat.le_refl _) p
  rw [Nat.sub_self, List.drop_zero, Nat.div_eq_of_lt hc.top] at h
  rw [putN, putL_len]
  exact h
theorem putN_firstS (n : Nat) (rest : List Int) : (putN n ++ rest).getD 0 0 ≠ 128 := by
  have hc := cnt_ok n
  have hp := hc.pos
  have e : (putN n ++ rest).getD 0 0 = grp n (cnt n) 0 := by
    rw [List.getD_eq_getElem?_getD, List.getElem?_append_left (by have := putN_len_posS n; omega)]
    simp [putN, putL, show 0 < cnt n by omega]
  rw [e]
  unfold grp
  split
  · rename_i h1
    have := Nat.mod_lt (n / 128 ^ (cnt n - 1 - 0)) (show 0 < 128 by decide)
    omega
  · rename_i h1
    rcases hc.low with h2 | h2
    · omega
    · have h3 : 1 ≤ n / 128 ^ (cnt n - 1) := (Nat.le_div_iff_mul_le (Nat.pow_pos (by decide))).2 (by omega)
      have h4 : n / 128 ^ (cnt n - 1) < 128 := by
        rw [Nat.div_lt_iff_lt_mul (Nat.pow_pos (by decide)), Nat.mul_comm, ← Nat.pow_succ, show (cnt n - 1).succ = cnt n by omega]
        exact hc.top
      rw [show cnt n - 1 - 0 = cnt n - 1 by omega, Nat.mod_eq_of_lt h4]
      omega
/-- A number that is written somewhere is read there. -/
theorem getN_there (pre rest : List Int) (n : Int) (h0 : 0 ≤ n) (h1 : n ≤ 9223372036854775807) : getN (pre ++ (putI n ++ rest)) (pre.length : Int) = (n, (pre.length : Int) + (putI n).length, 0) := by
  have e : putI n = putN n.toNat := by unfold putI; rw [if_neg (by omega)]
  rw [e, getN, if_neg (by rw [List.length_append]; omega), Int.toNat_natCast, List.drop_left, getL_putNS _ (by omega), if_neg]
  · rw [show ((n.toNat : Nat) : Int) = n by omega]
  · rw [List.getD_eq_getElem?_getD, List.getElem?_append_right (Nat.le_refl _), Nat.sub_self, ← List.getD_eq_getElem?_getD]
    exact putN_firstS _ _
theorem getL_high (l : List Int) (hl : ∀ x ∈ l, 128 ≤ x) : ∀ m p : Int, (getL l m p).2.2 ≠ 0 := by
  induction l with
  | nil => intro m p; simp [getL]
  | cons x r ih =>
    intro m p
    rw [getL]
    split
    · decide
    · rw [if_neg (by have := hl x (by simp); omega)]
      exact ih (fun y hy => hl y (by simp [hy])) _ _
/-- A number of which only a beginning is there is not read. -/
theorem getN_cut (pre : List Int) (n : Int) (h0 : 0 ≤ n) (k : Nat) (hk : k < (putI n).length) : (getN (pre ++ (putI n).take k) (pre.length : Int)).2.2 ≠ 0 := by
  have e : putI n = putN n.toNat := by unfold putI; rw [if_neg (by omega)]
  rw [e] at hk ⊢
  rw [putN, putL_len] at hk
  rw [getN, if_neg (by rw [List.length_append]; omega), Int.toNat_natCast, List.drop_left]
  split
  · decide
  · refine getL_high _ ?_ _ _
    intro x hx
    obtain ⟨j, hj, rfl⟩ := List.mem_iff_getElem.1 hx
    rw [List.length_take, putN, putL_len] at hj
    simp only [putN, putL, List.getElem_take, List.getElem_map, List.getElem_range]
    unfold grp
    rw [if_neg (by omega)]
    omega
theorem word_eight (bs : List Int) (off : Nat) (z : Int) (hz : U64 z) (h : ∀ k, k < 8 → bs.getD (off + k) 0 = (eightI z).getD k 0) : wdK bs off 8 = z := by
  obtain ⟨n, rfl⟩ := Int.eq_ofNat_of_zero_le hz.1
  have e0 := h 0 (by decide)
  have e1 := h 1 (by decide)
  have e2 := h 2 (by decide)
  have e3 := h 3 (by decide)
  have e4 := h 4 (by decide)
  have e5 := h 5 (by decide)
  have e6 := h 6 (by decide)
  have e7 := h 7 (by decide)
  have hb := hz.2
  simp only [wdK]
  rw [e0, e1, e2, e3, e4, e5, e6, e7]
  show ((((((((0 * 256 + (n : Int) / 72057594037927936 % 256) * 256 + (n : Int) / 281474976710656 % 256) * 256 + (n : Int) / 1099511627776 % 256) * 256 + (n : Int) / 4294967296 % 256) * 256 + (n : Int) / 16777216 % 256) * 256 + (n : Int) / 65536 % 256) * 256 + (n : Int) / 256 % 256) * 256 + (n : Int) % 256) = n
  omega
theorem flatL_get (zs : List Int) : ∀ (i k : Nat), k < 8 → i < zs.length → (flatL zs).getD (8 * i + k) 0 = (eightI (zs.getD i 0)).getD k 0 := by
  induction zs with
  | nil => intro i k _ h; simp at h
  | cons z zs ih =>
    intro i k hk hi
    have e : flatL (z :: zs) = eightI z ++ flatL zs := by simp [flatL]
    rw [e, List.getD_eq_getElem?_getD]
    cases i with
    | zero =>
      rw [List.getElem?_append_left (by rw [eightI_len]; omega), ← List.getD_eq_getElem?_getD]
      simp
    | succ i =>
      rw [List.getElem?_append_right (by rw [eightI_len]; omega), eightI_len, show 8 * (i + 1) + k - 8 = 8 * i + k by omega, ← List.getD_eq_getElem?_getD, ih i k hk (by simpa using hi)]
      simp
theorem dgs_flat (zs : List Int) (hz : ∀ k, U64 (zs.getD k 0)) : dgs (flatL zs) zs.length = zs := by
  apply List.ext_getElem
  · rw [dgs_len]
  · intro i h1 h2
    have e1 : (dgs (flatL zs) zs.length)[i] = (dgs (flatL zs) zs.length).getD i 0 := by simp [h1]
    have e2 : zs[i] = zs.getD i 0 := by simp [h2]
    rw [e1, e2, dgs_get _ _ _ h2]
    exact word_eight _ _ _ (hz i) (fun k hk => flatL_get zs i k hk h2)

theorem signed_ver (x : Int) (ms : List Int) (hs : secP x) : gkP (keyOf x) 0 ∧ verP (keyOf x) ms ((signR x ms).1.1, (signR x ms).1.2) ∧ (0 ≤ (signR x ms).1.1 ∧ (signR x ms).1.1 ≤ 9223372036854775807) ∧ 0 ≤ (signR x ms).1.2 ∧ (signR x ms).1.2 ≤ 9223372036854775807 := by
  have hk : keyOf x = gp 4 x := if_pos hs
  have hE : expP (sigE x ms) := chalN_bd _ _ _
  have hS : expP ((nonN x ms + sigE x ms * x) % 500000003) := ⟨Int.emod_nonneg _ (by decide), by have := Int.emod_lt_of_pos (nonN x ms + sigE x ms * x) (show (0 : Int) < 500000003 by decide); omega⟩
  have hn := nonN_bd x ms
  have hm := moved_back (nonN x ms) (sigE x ms) x (by omega) hE hs
  have hkp := keyP_of x hs
  have e : signR x ms = ((sigE x ms, (nonN x ms + sigE x ms * x) % 500000003), true) := if_pos hs
  rw [e, hk]
  refine ⟨⟨hkp, rfl⟩, ⟨hkp, hE, hS, ?_⟩, ⟨hE.1, Int.le_trans hE.2 (by decide)⟩, hS.1, Int.le_trans hS.2 (by decide)⟩
  show sigE x ms = chalN (movN 1 (gp 4 x) ((nonN x ms + sigE x ms * x) % 500000003) (sigE x ms)) (gp 4 x) ms
  rw [hm]
  unfold sigE
  rw [hk]
/-- What a signature of the group's scheme is taken as, its beginnings and with a byte behind it. -/
theorem group_any (x : Int) (ms : List Int) (hs : secP x) : vgP (keyOf x) ms (sgG x ms) ∧ ¬ vgP (keyOf x) ms (sgG x ms ++ [0]) ∧ ∀ i, i < (sgG x ms).length → ¬ vgP (keyOf x) ms ((sgG x ms).take i) := by
  obtain ⟨_, hv, ⟨hE0, hE1⟩, hS0, hS1⟩ := signed_ver x ms hs
  obtain ⟨E, hE⟩ : ∃ E, E = (signR x ms).1.1 := ⟨_, rfl⟩
  obtain ⟨S, hS⟩ : ∃ S, S = (signR x ms).1.2 := ⟨_, rfl⟩
  have hG : sgG x ms = putI E ++ putI S := by unfold sgG; rw [← hE, ← hS]
  rw [← hE] at hv hE0 hE1
  rw [← hS] at hv hS0 hS1
  rw [hG]
  have f1 : ∀ rest, getN (putI E ++ rest) 0 = (E, ((putI E).length : Int), 0) := by
    intro rest
    have := getN_there [] rest E hE0 hE1
    simpa using this
  have f2 : ∀ rest, getN (putI E ++ (putI S ++ rest)) ((putI E).length : Int) = (S, ((putI E).length : Int) + (putI S).length, 0) := fun rest => getN_there (putI E) rest S hS0 hS1
  refine ⟨?_, ?_, ?_⟩
  · have g2 := f2 []
    rw [List.append_nil] at g2
    unfold vgP
    rw [f1, g2]
    exact ⟨rfl, rfl, by rw [List.length_append]; push_cast; rfl, hv⟩
  · rw [List.append_assoc]
    unfold vgP
    rw [f1, f2]
    rintro ⟨_, _, h3, _⟩
    simp only [List.length_append, List.length_singleton] at h3
    omega
  · intro i hi
    rw [List.length_append] at hi
    by_cases h1 : i < (putI E).length
    · have e : (putI E ++ putI S).take i = [] ++ (putI E).take i := by rw [List.take_append_of_le_length (by omega)]; rfl
      rw [e]
      intro h
      exact getN_cut [] E hE0 i h1 h.1
    · have e : (putI E ++ putI S).take i = putI E ++ (putI S).take (i - (putI E).length) := by rw [List.take_append, List.take_of_length_le (by omega)]
      rw [e]
      intro h
      have h2 := h.2.1
      rw [f1] at h2
      exact getN_cut (putI E) S hS0 _ (by omega) h2
theorem tree_any (x h n : Int) (ms : List Int) (hk : kP h n) (hu : ¬ (n = ((2 ^ h.toNat : Nat) : Int))) : vtP (rootN x h) h ms (sgT x h n ms) ∧ ¬ vtP (rootN x h) h ms (sgT x h n ms ++ [0]) ∧ ∀ i, i < (sgT x h n ms).length → ¬ vtP (rootN x h) h ms ((sgT x h n ms).take i) := by
  have hh := hk.1
  have hn0 := hk.2.1
  have hn1 : n ≤ 9223372036854775807 := by
    have a1 := hk.2.2
    have a2 : 2 ^ h.toNat ≤ 2 ^ 5 := Nat.pow_le_pow_right (by decide) (by omega)
    omega
  have hm := made_taken x h n ms hk hu
  obtain ⟨es, hes⟩ : ∃ es, es = endSs x n ms := ⟨_, rfl⟩
  obtain ⟨ps, hps⟩ : ∃ ps, ps = pathN (leavesN x (2 ^ h.toNat)) n.toNat h.toNat := ⟨_, rfl⟩
  have le : es.length = 18 := by rw [hes]; exact endSs_len _ _ _
  have lp : ps.length = h.toNat := by rw [hps]; exact pathN_len _ _ _
  have be : ∀ k, U64 (es.getD k 0) := by rw [hes]; exact endSs_bd _ _ _
  have bp : ∀ k, U64 (ps.getD k 0) := by rw [hps]; exact pathN_bd _ (leavesN_bd _ _) _ _
  have hG : sgT x h n ms = putI n ++ flatL (es ++ ps) := by unfold sgT; rw [← hes, ← hps]
  rw [← hes, ← hps] at hm
  rw [hG]
  have lz : (es ++ ps).length = 18 + h.toNat := by rw [List.length_append, le, lp]
  have lf : (flatL (es ++ ps)).length = 8 * (18 + h.toNat) := by rw [flatL_len, lz]
  have f1 : ∀ rest, getN (putI n ++ rest) 0 = (n, ((putI n).length : Int), 0) := by
    intro rest
    have := getN_there [] rest n hn0 hn1
    simpa using this
  refine ⟨?_, ?_, ?_⟩
  · unfold vtP
    rw [f1]
    refine ⟨rfl, by rw [List.length_append, lf]; push_cast; omega, ?_⟩
    show tvP (rootN x h) h ms n _ _
    rw [Int.toNat_natCast, List.drop_left, show (18 + h).toNat = (es ++ ps).length by omega, dgs_flat _ (u64_cat be bp), List.take_left' le, List.drop_left' le]
    exact hm
  · rw [List.append_assoc]
    unfold vtP
    rw [f1]
    rintro ⟨_, h3, _⟩
    simp only [List.length_append, List.length_singleton, lf] at h3
    push_cast at h3
    omega
  · intro i hi
    rw [List.length_append, lf] at hi
    by_cases h1 : i < (putI n).length
    · have e : (putI n ++ flatL (es ++ ps)).take i = [] ++ (putI n).take i := by rw [List.take_append_of_le_length (by omega)]; rfl
      rw [e]
      intro h
      exact getN_cut [] n hn0 i h1 h.1
    · have e : (putI n ++ flatL (es ++ ps)).take i = putI n ++ (flatL (es ++ ps)).take (i - (putI n).length) := by rw [List.take_append, List.take_of_length_le (by omega)]
      rw [e]
      unfold vtP
      rw [f1]
      rintro ⟨_, h3, _⟩
      simp only [List.length_append, List.length_take, lf] at h3
      push_cast at h3
      omega

structure AnyT (sc x h n : Int) (ms : List Int) : Prop where
  ok : (pubR sc x h n).2 = true
  nx : pubR (saV sc x h n ms).2.1.1 (saV sc x h n ms).2.1.2.1 (saV sc x h n ms).2.1.2.2.1 (saV sc x h n ms).2.1.2.2.2 = pubR sc x h n
  ux : U64 (saV sc x h n ms).2.1.2.1
  up : U64 (pubR sc x h n).1.2.1
  yes : anyP (pubR sc x h n).1.1 (pubR sc x h n).1.2.1 (pubR sc x h n).1.2.2 ms (saV sc x h n ms).1
  more : ¬ anyP (pubR sc x h n).1.1 (pubR sc x h n).1.2.1 (pubR sc x h n).1.2.2 ms ((saV sc x h n ms).1 ++ [0])
  less : ∀ i, i < (saV sc x h n ms).1.length → ¬ anyP (pubR sc x h n).1.1 (pubR sc x h n).1.2.1 (pubR sc x h n).1.2.2 ms ((saV sc x h n ms).1.take i)
theorem any_g {y h : Int} {ms ss : List Int} : anyP 1 y h ms ss ↔ gkP y h ∧ vgP y ms ss := ⟨fun a => a.elim (fun a => a.2) (fun a => absurd a.1 (by decide)), fun a => .inl ⟨rfl, a⟩⟩
theorem any_t {y h : Int} {ms ss : List Int} : anyP 2 y h ms ss ↔ hbP h ∧ vtP y h ms ss := ⟨fun a => a.elim (fun a => absurd a.1 (by decide)) (fun a => a.2), fun a => .inr ⟨rfl, a⟩⟩
theorem any_made (sc x h n : Int) (ms : List Int) (hx : U64 x) (hc : (saV sc x h n ms).2.2 = 0) : AnyT sc x h n ms := by
  by_cases hk : secOk sc x h n
  · by_cases h1 : sc = 1
    · subst h1
      have hg : grpP x h n := hk.elim (fun a => a.2) (fun a => absurd a.1 (by decide))
      obtain ⟨hs, rfl, rfl⟩ := hg
      have hs' : secP x := hs
      have eV : saV 1 x 0 0 ms = (sgG x ms, (1, x, 0, 0), 0) := by unfold saV; rw [if_pos hk, if_pos rfl]
      have eP : pubR 1 x 0 0 = ((1, keyOf x, 0), true) := by unfold pubR; rw [if_pos hk, if_pos rfl]
      obtain ⟨g1, g2, g3⟩ := group_any x ms hs'
      have gk := (signed_ver x ms hs').1
      have hb := keyOf_bd x
      refine ⟨by rw [eP], by rw [eV], by rw [eV]; exact hx, by rw [eP]; exact ⟨hb.1, Int.le_trans hb.2 (by decide)⟩, ?_, ?_, ?_⟩
      · rw [eV, eP]; exact any_g.2 ⟨gk, g1⟩
      · rw [eV, eP]; exact fun a => g2 (any_g.1 a).2
      · rw [eV, eP]; exact fun i hi a => g3 i hi (any_g.1 a).2
    · obtain ⟨rfl, hkk⟩ : sc = 2 ∧ kP h n := hk.elim (fun a => absurd a.1 h1) (fun a => a)
      have eV0 : saV 2 x h n ms = ((saT x h n ms).1, (2, x, h, (saT x h n ms).2.1), (saT x h n ms).2.2) := by unfold saV; rw [if_pos hk, if_neg h1]
      have hu : ¬ (n = ((2 ^ h.toNat : Nat) : Int)) := by
        intro hu
        rw [eV0] at hc
        unfold saT at hc
        rw [if_pos hu] at hc
        have hc' : (2 : Int) = 0 := hc
        exact absurd hc' (by decide)
      have eT : saT x h n ms = (sgT x h n ms, n + 1, 0) := by unfold saT; rw [if_neg hu]
      have eV : saV 2 x h n ms = (sgT x h n ms, (2, x, h, n + 1), 0) := by rw [eV0, eT]
      have eP : pubR 2 x h n = ((2, rootN x h, h), true) := by unfold pubR; rw [if_pos hk, if_neg h1]
      have hk2 : secOk 2 x h (n + 1) := .inr ⟨rfl, hkk.1, by have := hkk.2; omega⟩
      have eP2 : pubR 2 x h (n + 1) = ((2, rootN x h, h), true) := by unfold pubR; rw [if_pos hk2, if_neg h1]
      obtain ⟨g1, g2, g3⟩ := tree_any x h n ms hkk hu
      refine ⟨by rw [eP], by rw [eV]; exact eP2.trans eP.symm, by rw [eV]; exact hx, by rw [eP]; exact lev_bd _ (leavesN_bd _ _) _ _, ?_, ?_, ?_⟩
      · rw [eV, eP]; exact any_t.2 ⟨hkk.1, g1⟩
      · rw [eV, eP]; exact fun a => g2 (any_t.1 a).2
      · rw [eV, eP]; exact fun i hi a => g3 i hi (any_t.1 a).2
  · exfalso
    unfold saV at hc
    rw [if_neg hk] at hc
    exact absurd hc (by decide)
theorem any_not (sc x h n : Int) (ms : List Int) (hc : (saV sc x h n ms).2.2 ≠ 0) : (saV sc x h n ms).1 = [] ∧ ((pubR sc x h n).2 = true ∨ (saV sc x h n ms).2.2 = 1) := by
  by_cases hk : secOk sc x h n
  · have eP : (pubR sc x h n).2 = true := by unfold pubR; rw [if_pos hk]
    refine ⟨?_, .inl eP⟩
    unfold saV at hc ⊢
    rw [if_pos hk] at hc ⊢
    split
    · rename_i h1; rw [if_pos h1] at hc; exact absurd rfl hc
    · rename_i h1
      rw [if_neg h1] at hc
      show (saT x h n ms).1 = []
      have hc2 : (saT x h n ms).2.2 ≠ 0 := hc
      unfold saT at hc2 ⊢
      split
      · rfl
      · rename_i hu; rw [if_neg hu] at hc2; exact absurd rfl hc2
  · unfold saV
    rw [if_neg hk]
    exact ⟨rfl, .inr rfl⟩

end Go.Proofs.Ytgaheamgkaipnaa

namespace Go.Proofs.Ytgaheamgkaipnaa
open Go.RowKit

set_option maxHeartbeats 400000 in
theorem big_any4 (a : Option Addr) (n cap : Nat) (w : World) (hn : n ≤ 9223372036854775807) :
    Calls Try.prog 7 #[.slice a n cap] w fun r w' => r = .returned (.bool (decide (1048576 < n))) ∧ w' = w := by
  have e : decide (1048576 < n) = decide ((1048576 : Int) < (n : Int)) := by simp; omega
  rw [e]
  go_enter Try.func7, Try.ntmps7
  go_wp2
  go_ret
  exact ⟨rfl, rfl⟩
def PubAt (w : World) (g : Nat) (a b c : Int) : Prop := w.heap[g]? = some (.cells #[.int .i64 a, .int .u64 b, .int .i64 c] 65 (0, 0))
theorem PubAt.lt {w : World} {g : Nat} {a b c : Int} (k : PubAt w g a b c) : g < w.heap.size := (Array.getElem?_eq_some_iff.1 k).1
theorem PubAt.kept {w w' : World} {g : Nat} {a b c : Int} (k : PubAt w g a b c) (hb : Below w.heap.size w w') : PubAt w' g a b c := (hb.block _ k.lt).trans k

theorem step_append_ownG {P : Program} {ops : Array Oper} {o : Oper} {a : Act} {w : World} {K : Act → World → Prop} {Q : Exit → Act → World → Prop} {E : Prop}
    (hw : Region.wanted o (yielded ops a.tmps) = true) (s x : Operand) (t : TypeId) (hop : o.op = Op.call { callee := Callee.builtin Builtin.append, args := #[s, x], argTypes := #[t, t] })
    (base : Nat) (e : TypeId) (i : TypeInfo) (z : Value) (size bytes : Nat) (h1 : P.underlying t = some (.slice e)) (h2 : P.info? e = some i) (h3 : i.zero = some z) (h4 : i.size = size) (h5 : i.bytes = bytes) (h6 : z.cells.size = size) (h7 : 0 < size)
    (v : Value) (n : Nat) (xs : List Value) (hs : a.eval s = v) (hown : w.ownsRow base e size v n xs)
    (ad : Addr) (m c : Nat) (news : List Value) (hx : a.eval x = .slice (some ad) m c) (hn : news.length = m * size) (hc : ∀ j u, news[j]? = some u → w.cell? (ad.add j) = some u) (h1c : ∀ u ∈ news, u.oneCell' = true)
    (b1 : n + m ≤ maxLen) (b2 : (n + m) * bytes ≤ 140737488355328) (b3 : base ≤ w.heap.size)
    (hK : ∀ v' w', w'.ownsRow base e size v' (n + m) (xs ++ news) → w.grownBy w' v.ownBlock → K (a.put o.dst v') w') :
    if Region.wanted o (yielded ops a.tmps) = true then Oper.wp P o a w K Q else E := by
  rw [if_pos hw]
  obtain ⟨v', w', hrun, r1, r2, _⟩ := run_append_own (P := P) w base t o.type e i z size bytes h1 h2 h3 h4 h5 h6 h7 v n xs hown ad m c news hn hc h1c b1 b2 b3
  unfold Oper.wp
  simp [execOp, hop, resolve, invoke, builtin, hs, hx, hrun, Result.andThen]
  exact hK v' w' r1 r2
theorem cell_oneB (w : World) (x : Int) : ∀ jj uu, ([x].map (Value.int .u8))[jj]? = some uu → (w.alloc (.cells #[.int .u8 x] 5)).cell? ((⟨w.heap.size, 0, none⟩ : Addr).add jj) = some uu := by
  intro jj uu hju
  rw [Addr.add_lit, Nat.zero_add, cell_of_row _ w.heap.size jj _ 5 _ (heap_alloc_new w _), ← hju]
  simp
theorem cell_oneK {w w' : World} {x : Int} (hb : Below (w.alloc (.cells #[.int .u8 x] 5)).heap.size (w.alloc (.cells #[.int .u8 x] 5)) w') : ∀ jj uu, ([x].map (Value.int .u8))[jj]? = some uu → w'.cell? ((⟨w.heap.size, 0, none⟩ : Addr).add jj) = some uu := by
  intro jj uu hju
  have h := cell_oneB w x jj uu hju
  rw [Addr.add_lit] at h ⊢
  exact (hb.cell (p := ⟨w.heap.size, 0 + jj, none⟩) (by simp)).trans h
theorem byte_zero : ∀ k, 0 ≤ ([0] : List Int).getD k 0 ∧ ([0] : List Int).getD k 0 ≤ 255 := by
  intro k
  cases k <;> simp
theorem row_takeA {w : World} {a : Option Addr} {n : Nat} {bs : List Int} (h : Row w a n bs) (k : Nat) (hk : k ≤ n) : Row w a k (bs.take k) := by
  refine ⟨by rw [List.length_take, h.len]; omega, fun j hj => ?_, take_byte h.byte k⟩
  obtain ⟨b, off, ha, hb, hc⟩ := h.get j (by omega)
  exact ⟨b, off, ha, hb, hc.trans (by simp [hj])⟩
theorem ownCap {B : Nat} {w : World} {a : Option Addr} {n cap : Nat} {bs : List Int} (h : Own B w a n cap bs) : n ≤ cap := by
  rcases h.row.2 with ⟨hv, h0⟩ | ⟨g, cap', cur, hv, hb, hg, hle, _⟩
  · omega
  · simp only [Value.slice.injEq] at hv; omega

set_option maxRecDepth 10000 in
set_option maxHeartbeats 64000000 in
theorem lawAnySigned_walk (HSPEC : ∀ (seed h next : Int) (am : Option Addr) (n c : Nat) (bs : List Int) (w : World), U64 seed → Row w am n bs → n ≤ 1000000000000 → Calls Try.prog 82 #[tkv seed h next, .slice am n c] w fun e w' => ∃ v, e = .returned v ∧ SgR seed h next bs w.heap.size w' v ∧ Below w.heap.size w w')
    (a : Option Addr) (n c : Nat) (bs : List Int) (w : World) (hr : Row w a n bs) (hmax : n ≤ 9223372036854775807) :
    Calls Try.prog 6 #[.slice a n c] w fun e w' => e = .returned (.bool true) ∧ Below w.heap.size w w' := by
  obtain ⟨i0, hi, hz0, hz1, hz2⟩ := info_parts Try.info5
  have H0 : Hid (Row w a n bs) := hr
  have HS : Hid (_) := HSPEC
  clear hr HSPEC
  go_enter Try.func6, Try.ntmps6
  go_wp2_with fail
  refine (big_any4 a n c _ hmax).mono ?_
  rintro e w1 ⟨rfl, hw1⟩
  have hw2 := hw1.symm
  subst hw2
  clear hw1
  by_cases hbig : 1048576 < n
  · rw [decide_eq_true hbig]
    go_wp2
    go_ret
    exact ⟨rfl, Below.refl _ _⟩
  rw [decide_eq_false hbig]
  have hn : n ≤ 1048576 := by omega
  clear hmax hbig
  go_wp2_with fail
  refine (drawSignAny_any a n c bs _ H0.out (by omega)).mono ?_
  rintro e w1 ⟨sc, x, h, nx, am, nm, cm, ms, rfl, hx, hom, hnm, hb1⟩
  have HOM : Hid (∀ W, Below w1.heap.size w1 W → Row W am nm ms) := fun W hW => (hom.kept hW).toRow
  have hmn := hom.nil
  clear H0 hom
  rw [scv]
  obtain ⟨w2, hw2⟩ : ∃ w2, w2 = w1.alloc (.cells #[.int .i64 sc, .int .u64 x, .int .i64 h, .int .i64 nx] 61) := ⟨_, rfl⟩
  have hb2 : Below w1.heap.size w1 w2 := by rw [hw2]; exact (Below.refl _ _).alloc (Nat.le_refl _) _
  have HS2 : Hid (SecAt w2 w1.heap.size sc x h nx) := by show SecAt _ _ _ _ _ _; rw [hw2]; exact heap_alloc_new w1 _
  have HW : Hid (_ = _) := hw2
  clear hw2
  go_upto_region 4 with fail
  rw [← HW.out]
  clear HW
  obtain ⟨s0, s1, s2, s3⟩ := cells4 HS2.out
  obtain ⟨P, hP⟩ : ∃ P, P = pubR sc x h nx := ⟨_, rfl⟩
  have HP : Hid (_ = _) := hP
  clear hP
  obtain ⟨⟨p0, p1, p2⟩, ok⟩ := P
  go_wp2_with fail
  refine (implPubOf_any sc x h nx _ hx).mono ?_
  rintro e w3 ⟨rfl, hb3⟩
  rw [← HP.out, pbv]
  clear s0 s1 s2 s3
  have hc3 := keepT hb2 hb3
  obtain ⟨w4, hw4⟩ : ∃ w4, w4 = w3.alloc (.cells #[.int .i64 p0, .int .u64 p1, .int .i64 p2] 65) := ⟨_, rfl⟩
  have hb4 : Below w3.heap.size w3 w4 := by rw [hw4]; exact (Below.refl _ _).alloc (Nat.le_refl _) _
  have HP4 : Hid (PubAt w4 w3.heap.size p0 p1 p2) := by show PubAt _ _ _ _ _; rw [hw4]; exact heap_alloc_new w3 _
  have hc4 := keepT hc3 hb4
  have HS4 : Hid (SecAt w4 w1.heap.size sc x h nx) := HS2.out.kept (keepT hb3 hb4)
  have HW : Hid (_ = _) := hw4
  clear hw4
  go_upto_region 5 with fail
  rw [← HW.out]
  clear HW
  obtain ⟨s0, s1, s2, s3⟩ := cells4 HS4.out
  obtain ⟨T, hT⟩ : ∃ T, T = saV sc x h nx ms := ⟨_, rfl⟩
  have HT : Hid (_ = _) := hT
  clear hT
  obtain ⟨ss, ⟨t0, t1, t2, t3⟩, cd⟩ := T
  go_wp2_with fail
  refine (implSignAny_any sc x h nx am nm cm ms _ hx (HOM.out _ hc4) (by omega) hmn).mono ?_
  rintro e w5 ⟨ag, cg, rfl, hog, hb5⟩
  rw [← HT.out] at hog ⊢
  rw [scw]
  clear s0 s1 s2 s3
  have hc5 := keepT hc4 hb5
  obtain ⟨w6, hw6⟩ : ∃ w6, w6 = w5.alloc (.cells #[.int .i64 t0, .int .u64 t1, .int .i64 t2, .int .i64 t3] 61) := ⟨_, rfl⟩
  have hb6 : Below w5.heap.size w5 w6 := by rw [hw6]; exact (Below.refl _ _).alloc (Nat.le_refl _) _
  have HN6 : Hid (SecAt w6 w5.heap.size t0 t1 t2 t3) := by show SecAt _ _ _ _ _ _; rw [hw6]; exact heap_alloc_new w5 _
  have hc6 := keepT hc5 hb6
  have h56 := keepT hb5 hb6
  have HS6 : Hid (SecAt w6 w1.heap.size sc x h nx) := HS4.out.kept h56
  have HP6 : Hid (PubAt w6 w3.heap.size p0 p1 p2) := HP4.out.kept h56
  have HG6 : Hid (Own w4.heap.size w6 ag ss.length cg ss) := hog.kept hb6
  have hgn := hog.nil
  have HW : Hid (_ = _) := hw6
  clear hw6 hog
  go_upto_region 6 with fail
  rw [← HW.out]
  clear HW
  obtain ⟨s0, s1, s2, s3⟩ := cells4 HS6.out
  go_wp2_with fail
  refine (specSignAny_walk HS.out sc x h nx am nm cm ms _ hx (HOM.out _ hc6) (by omega) hmn).mono ?_
  rintro e w7 ⟨aw, cw, rfl, _, hb7⟩
  rw [← HT.out, scw]
  clear s0 s1 s2 s3
  have hc7 := keepT hc6 hb7
  obtain ⟨w8, hw8⟩ : ∃ w8, w8 = w7.alloc (.cells #[.int .i64 t0, .int .u64 t1, .int .i64 t2, .int .i64 t3] 61) := ⟨_, rfl⟩
  have hb8 : Below w7.heap.size w7 w8 := by rw [hw8]; exact (Below.refl _ _).alloc (Nat.le_refl _) _
  have hc8 := keepT hc7 hb8
  have h68 := keepT hb7 hb8
  have HW : Hid (_ = _) := hw8
  clear hw8
  go_upto_region 7 with fail
  rw [← HW.out]
  clear HW
  obtain ⟨s0, s1, s2, s3⟩ := cells4 (HS6.out.kept h68)
  go_wp2_with fail
  refine (specPubOf_any sc x h nx _ hx).mono ?_
  rintro e w9 ⟨rfl, hb9⟩
  rw [← HP.out, pbv]
  clear s0 s1 s2 s3
  obtain ⟨wA, hwA⟩ : ∃ wA, wA = w9.alloc (.cells #[.int .i64 p0, .int .u64 p1, .int .i64 p2] 65) := ⟨_, rfl⟩
  have hbA : Below w9.heap.size w9 wA := by rw [hwA]; exact (Below.refl _ _).alloc (Nat.le_refl _) _
  have h6A := keepT h68 (keepT hb9 hbA)
  have hcA := keepT hc6 h6A
  have HW : Hid (_ = _) := hwA
  clear hwA
  go_upto_region 8 with fail
  rw [← HW.out]
  clear HW
  have z1 : (ok != ok) = false := by simp
  have z2 : (cd != cd) = false := by simp
  by_cases hcd : cd = 0
  · subst hcd
    have hA : AnyT sc x h nx ms := any_made sc x h nx ms hx (by rw [← HT.out])
    have hok : ok = true := by have := hA.ok; rw [← HP.out] at this; exact this
    subst hok
    have HNX : Hid (pubR t0 t1 t2 t3 = ((p0, p1, p2), true)) := by have := hA.nx; rw [← HT.out, ← HP.out] at this; exact this
    have hux : U64 t1 := by have := hA.ux; rw [← HT.out] at this; exact this
    have hup : U64 p1 := by have := hA.up; rw [← HP.out] at this; exact this
    have HYES : Hid (decide (anyP p0 p1 p2 ms ss) = true) := by have := hA.yes; rw [← HT.out, ← HP.out] at this; exact decide_eq_true this
    have HMORE : Hid (decide (anyP p0 p1 p2 ms (ss ++ [0])) = false) := by have := hA.more; rw [← HT.out, ← HP.out] at this; exact decide_eq_false this
    have HLESS : Hid (∀ i, i < ss.length → decide (anyP p0 p1 p2 ms (ss.take i)) = false) := by
      intro i hi'
      have := hA.less i (by rw [← HT.out]; exact hi')
      rw [← HT.out, ← HP.out] at this
      exact decide_eq_false this
    have hsl : ss.length ≤ 1000 := by have := saV_len sc x h nx ms; rw [← HT.out] at this; exact this
    clear hA HP HT
    obtain ⟨n0, n1, n2, n3⟩ := cells4 (HN6.out.kept h6A)
    go_wp2_with fail
    refine (implPubOf_any t0 t1 t2 t3 _ hux).mono ?_
    rintro e wB ⟨rfl, hbB⟩
    rw [HNX.out, pbv]
    clear n0 n1 n2 n3
    obtain ⟨wC, hwC⟩ : ∃ wC, wC = wB.alloc (.cells #[.int .i64 p0, .int .u64 p1, .int .i64 p2] 65) := ⟨_, rfl⟩
    have hbC : Below wB.heap.size wB wC := by rw [hwC]; exact (Below.refl _ _).alloc (Nat.le_refl _) _
    have HQC : Hid (PubAt wC wB.heap.size p0 p1 p2) := by show PubAt _ _ _ _ _; rw [hwC]; exact heap_alloc_new wB _
    have h6C := keepT h6A (keepT hbB hbC)
    have hcC := keepT hc6 h6C
    have HPC : Hid (PubAt wC w3.heap.size p0 p1 p2) := HP6.out.kept h6C
    have HGC : Hid (Own w4.heap.size wC ag ss.length cg ss) := HG6.out.kept h6C
    have HW : Hid (_ = _) := hwC
    clear hwC HP6 HG6 HN6
    go_upto_region 13 with fail
    rw [← HW.out]
    clear HW
    have HX : Hid (∀ W, Below wC.heap.size wC W → (W.cell? ⟨w3.heap.size, 0, none⟩ = some (.int .i64 p0) ∧ W.cell? ⟨w3.heap.size, 1, none⟩ = some (.int .u64 p1) ∧ W.cell? ⟨w3.heap.size, 2, none⟩ = some (.int .i64 p2)) ∧ W.cell? ⟨wB.heap.size, 0, none⟩ = some (.int .i64 p0) ∧ W.cell? ⟨wB.heap.size, 1, none⟩ = some (.int .u64 p1) ∧ W.cell? ⟨wB.heap.size, 2, none⟩ = some (.int .i64 p2)) := fun W hW => ⟨cells3' (HPC.out.kept hW), cells3' (HQC.out.kept hW)⟩
    have hd : Below wC.heap.size wC wC.drew := (Below.refl _ _).drew
    have SS := HX.out _ (Below.refl _ _)
    have SS1 := HX.out _ hd
    have HMC : Hid (∀ W, Below wC.heap.size wC W → Row W am nm ms) := fun W hW => HOM.out W (keepT hcC hW)
    have HGX : Hid (∀ W, Below wC.heap.size wC W → Row W ag ss.length ss) := fun W hW => (HGC.out.kept hW).toRow
    go_region_held_law (fun W => (W.cell? ⟨w3.heap.size, 0, none⟩ = some (.int .i64 p0) ∧ W.cell? ⟨w3.heap.size, 1, none⟩ = some (.int .u64 p1) ∧ W.cell? ⟨w3.heap.size, 2, none⟩ = some (.int .i64 p2)) ∧ W.cell? ⟨wB.heap.size, 0, none⟩ = some (.int .i64 p0) ∧ W.cell? ⟨wB.heap.size, 1, none⟩ = some (.int .u64 p1) ∧ W.cell? ⟨wB.heap.size, 2, none⟩ = some (.int .i64 p2)) (first | assumption | exact SS | exact SS1 | exact SS2 | exact SS3 | exact SS4 | exact SS5 | exact SS5b | exact SS6 | exact SS7)
      (first
        | (go_at_call 33; have hvv := hv1; refine (copied_any ag ss.length cg ss _ ?_ hgn (by omega)).mono ?_; (first | exact HGX.out _ hv1 | exact HGX.out _ hv1al); rintro e wF ⟨aF, cF, rfl, hoF, hbF⟩; have hF : Below wC.heap.size wC wF := (by first | exact keepT hv1 hbF | exact keepT hv1al hbF); have SS4 := HX.out _ hF; have hFal := hF.alloc hF.size (.cells #[.int .u8 0] 5); have SS5 := HX.out _ hFal; have hoFB : Own wE.heap.size wF aF ss.length cF ss := (by first | exact hoF | exact hoF.mono (by simp)))
        | (go_at_call 33; refine (copied_any ag ss.length cg ss _ (HGX.out _ hd) hgn (by omega)).mono ?_; rintro e wD ⟨aD, cD, rfl, hoD, hbD⟩; have hD := keepT hd hbD; have SS2 := HX.out _ hD; have hrD := hoD.toRow; have hlD := ownCap hoD)
        | (go_at_call_of 32 aD; refine (implVerifyAny_any p0 p1 p2 am nm cm ms aD ss.length cD ss _ hup (HMC.out _ hD) (by omega) hmn hrD (by omega) hlD).mono ?_; rintro e wE ⟨rfl, hbE⟩; rw [HYES.out]; have hv1 := keepT hD hbE; have SS3 := HX.out _ hv1; have hv1al := hv1.alloc hv1.size (.cells #[.int .u8 0] 5); have SS5b := HX.out _ hv1al)
        | (go_at_call_of 32 a6; refine (implVerifyAny_any p0 p1 p2 am nm cm ms a6 (ss.length + 1) c6 (ss ++ [0]) _ hup (HMC.out _ hG) (by omega) hmn ho6.toRow (by omega) (ownCap ho6)).mono ?_; rintro e wH ⟨rfl, hbH⟩; rw [HMORE.out]; have hH := keepT hG hbH; have SS7 := HX.out _ hH)
        | (refine step_append_ownG (by kernel_rfl) (.tmp 100) (.tmp 101) 22 rfl wE.heap.size 5 i0 _ 1 1 Try.underlying22 hi hz0 hz1 hz2 rfl (by decide) _ ss.length _ (by simp [Act.eval]) hoFB.row ⟨wE.heap.size, 0, none⟩ 1 1 ([0].map (Value.int .u8)) (by simp [Act.eval]) rfl (cell_oneK hbF) (ints_oneCell .u8 [0]) (by unfold maxLen; omega) (by omega) (by have := hbF.size; simp at this; omega) ?_; intro v6 wG hv6 hg6; have hG : Below wC.heap.size wC wG := hF.grown hg6 hF.size (fun k hk => Nat.le_trans hv1.size (hoFB.row.lt k hk).1); have SS6 := HX.out _ hG; obtain ⟨a6, c6, rfl, ho6⟩ := own_appended hv6 hoFB.byte byte_zero)
        | (refine step_append_ownG (by kernel_rfl) (.tmp 100) (.tmp 101) 22 rfl wE.heap.size 5 i0 _ 1 1 Try.underlying22 hi hz0 hz1 hz2 rfl (by decide) _ ss.length _ (by simp [Act.eval]) (hoFB.kept ((Below.refl _ _).alloc (Nat.le_refl _) (.cells #[.int .u8 0] 5))).row ⟨wF.heap.size, 0, none⟩ 1 1 ([0].map (Value.int .u8)) (by simp [Act.eval]) rfl (cell_oneB wF 0) (ints_oneCell .u8 [0]) (by unfold maxLen; omega) (by omega) (by simp; have := hbF.size; omega) ?_; intro v6 wG hv6 hg6; have hG : Below wC.heap.size wC wG := hFal.grown hg6 hFal.size (fun k hk => Nat.le_trans hv1.size ((hoFB.kept ((Below.refl _ _).alloc (Nat.le_refl _) (.cells #[.int .u8 0] 5))).row.lt k hk).1); have SS6 := HX.out _ hG; obtain ⟨a6, c6, rfl, ho6⟩ := own_appended hv6 hoFB.byte byte_zero))
    all_goals
      have hfin : Below wC.heap.size wC wH := hH
      clear SS SS1 SS2 SS3 SS4 SS5 SS5b SS6 SS7 hrD hlD HYES HMORE
      have hcg := ownCap HGC.out
      go_wp2
      go_loopw [17] (fun i wr => ∃ j : Nat, i = .int .i64 j ∧ j ≤ 3000 ∧ Below wC.heap.size wC wr) (fun i _ => ss.length - (intOf i).toNat)
      case atStart => exact ⟨0, rfl, by omega, hfin⟩
      case round =>
        obtain ⟨j, rfl, hj, hbr⟩ := hrel
        by_cases hlt : j < ss.length
        · have hlti : (j : Int) < (ss.length : Int) := by omega
          obtain ⟨gg, rfl⟩ := HGC.out.shape (by omega)
          have hjc : (j : Int) ≤ (cg : Int) := by omega
          have hj0 : (0 : Int) ≤ (j : Int) := by omega
          have hrd : Below wC.heap.size wC wr.drew := hbr.drew
          have T0 := (HX.out _ hbr).1
          have T1 := (HX.out _ hrd).1
          have HL1 : Hid (decide (anyP p0 p1 p2 ms (ss.take j)) = false) := HLESS.out j hlt
          have HTK : Hid (Row wr.drew (some ⟨gg, 0, none⟩) j (ss.take j)) := row_takeA (HGX.out _ hrd) j (by omega)
          go_upto_region 18 with fail
          go_region_held_law (fun W => W.cell? ⟨w3.heap.size, 0, none⟩ = some (.int .i64 p0) ∧ W.cell? ⟨w3.heap.size, 1, none⟩ = some (.int .u64 p1) ∧ W.cell? ⟨w3.heap.size, 2, none⟩ = some (.int .i64 p2)) (first | assumption | exact T0 | exact T1 | exact T2 | exact T3)
            (first
              | (go_at_call 33; refine (copied_any (some ⟨gg, 0, none⟩) j cg (ss.take j) _ HTK.out (fun h => by cases h) (by omega)).mono ?_; rintro e wD ⟨aD, cD, rfl, hoD, hbD⟩; have hD := keepT hrd hbD; have T2 := (HX.out _ hD).1)
              | (go_at_call 32; refine (implVerifyAny_any p0 p1 p2 am nm cm ms aD j cD (ss.take j) _ hup (HMC.out _ hD) (by omega) hmn hoD.toRow (by omega) (ownCap hoD)).mono ?_; rintro e wE ⟨rfl, hbE⟩; rw [HL1.out]; have hE := keepT hD hbE; have T3 := (HX.out _ hE).1))
          all_goals
            clear T0 T1 T2 T3
            go_wp2
            go_roundw
            case rel => exact ⟨j + 1 + ss.length / 12, by go_num, by omega, hE⟩
            case measure => simp [intOf]; omega
        · have hnl : ¬ ((j : Int) < (ss.length : Int)) := by omega
          go_wp2_with fail
          refine (lives_any _).mono ?_
          rintro e wL ⟨rfl, hbL⟩
          go_wp2
          go_ret
          exact ⟨rfl, keepT hb1 (keepT hcC (keepT hbr hbL))⟩
  · have hno := any_not sc x h nx ms (by rw [← HT.out]; exact hcd)
    rw [← HT.out, ← HP.out] at hno
    obtain ⟨hs0, hno2⟩ := hno
    have hs0' : ss = [] := hs0
    subst hs0'
    have zc : (cd != 0) = true := by simp [hcd]
    have HCD : Hid (ok = true ∨ cd = 1) := hno2
    clear hno2 hs0 hcd
    go_wp2_with fail
    refine (lives_any _).mono ?_
    rintro e wB ⟨rfl, hbB⟩
    have hfin := keepT hb1 (keepT hcA hbB)
    cases ok
    · obtain rfl : cd = 1 := HCD.out.elim (fun h => by cases h) id
      go_wp2
      go_ret
      exact ⟨rfl, hfin⟩
    · clear HCD
      go_wp2
      go_ret
      exact ⟨rfl, hfin⟩

end Go.Proofs.Ytgaheamgkaipnaa

namespace Go.Proofs.Ytgaheamgkaipnaa
open Go.RowKit

theorem lawAnySigned_all (a : Option Addr) (n c : Nat) (bs : List Int) (w : World) (hr : Row w a n bs) (hmax : n ≤ 9223372036854775807) :
    Calls Try.prog 6 #[.slice a n c] w fun e w' => e = .returned (.bool true) ∧ Below w.heap.size w w' :=
  lawAnySigned_walk (fun seed h next am n c bs w hx hr hn => specTreeSign_any seed h next am n c bs w hx hr hn) a n c bs w hr hmax

end Go.Proofs.Ytgaheamgkaipnaa

