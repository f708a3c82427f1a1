import Derived.Test.YtdahihomjpiiaaaGreatTS3
import Derived.Lib.QuietBelow
import Derived.Laws.CopyOwn
import Derived.Test.YtdahihomjpiiaaaGreatSA1
namespace Go.Proofs.YtdahihomjpiiaaaGreat
open Go.RowKit

def prW : List Int := [112, 97, 105, 114]
theorem prW_byte : ∀ k, 0 ≤ prW.getD k 0 ∧ prW.getD k 0 ≤ 255 := bytes_of_all (by decide)
/-- The pair of two digests. -/
def pairN (x y : Int) : Int := hashD prW [x, y]
theorem pairN_bd (x y : Int) : U64 (pairN x y) := hashD_bd _ _
theorem rowU_two (w : World) (x y : Int) (hx : U64 x) (hy : U64 y) : RowU (w.alloc (.cells #[.int .u64 x, .int .u64 y] 23)) (some ⟨w.heap.size, 0, none⟩) 2 [x, y] := by
  refine ⟨rfl, fun k hk => ⟨w.heap.size, 0, rfl, by simp, ?_⟩, fun k => ?_⟩
  · rw [Nat.zero_add, cell_of_row _ w.heap.size k _ 23 _ (heap_alloc_new w _)]
    match k, hk with
    | 0, _ => rfl
    | 1, _ => rfl
  · match k with
    | 0 => exact hx
    | 1 => exact hy
    | k + 2 => simp [U64]

set_option maxRecDepth 10000 in
set_option maxHeartbeats 1000000 in
theorem l15Pair_any (x y : Int) (w : World) (hx : U64 x) (hy : U64 y) :
    Calls Tryz.prog 47 #[.int .u64 x, .int .u64 y] w fun e w' => e = .returned (.int .u64 (pairN x y)) ∧ Below w.heap.size w w' := by
  have HT : Hid (total [prW, eightI x, eightI y] ≤ 2097152) := by show _ ≤ _; rw [show [prW, eightI x, eightI y] = prW :: [x, y].map eightI from rfl, total_parts]; show 4 + _ ≤ _; simp
  have hcv := Lib.run_convert_bytes_const (P := Tryz.prog) w 26 5 #[.int .u8 112, .int .u8 97, .int .u8 105, .int .u8 114] 4 4 Tryz.underlying26 Tryz.underlying5
  have hrw : Row (w.alloc (.cells #[.int .u8 112, .int .u8 97, .int .u8 105, .int .u8 114] 5 (4, 5))) (some ⟨w.heap.size, 0, none⟩) 4 prW := row_word w prW (4, 5) prW_byte
  have hb0 : Below w.heap.size w (w.alloc (.cells #[.int .u8 112, .int .u8 97, .int .u8 105, .int .u8 114] 5 (4, 5))) := (Below.refl _ _).alloc (Nat.le_refl _) _
  go_enter Tryz.func47, Tryz.ntmps47
  go_wp2_with fail
  clear hcv
  obtain ⟨w0, hw0⟩ : ∃ w0, w0 = w.alloc (.cells #[.int .u8 112, .int .u8 97, .int .u8 105, .int .u8 114] 5 (4, 5)) := ⟨_, rfl⟩
  rw [← hw0] at hrw hb0 ⊢
  clear hw0
  refine (l1Eight_any x _ hx.1 hx.2).mono ?_
  rintro e w1 ⟨a1, c1, rfl, ho1, hb1⟩
  go_wp2_with fail
  refine (l1Eight_any y _ hy.1 hy.2).mono ?_
  rintro e w2 ⟨a2, c2, rfl, ho2, hb2⟩
  have B2 : Below w0.heap.size w0 w2 := keepT hb1 hb2
  have B2' : Below w.heap.size w w2 := keepT hb0 B2
  have HRS : Hid (Rows2 (w2.alloc (.cells #[.slice (some ⟨w.heap.size, 0, none⟩) 4 4, .slice a1 8 c1, .slice a2 8 c2] 26)) (some ⟨w2.heap.size, 0, none⟩) 3 [prW, eightI x, eightI y]) := by
    refine rows2_lit w2 [(some ⟨w.heap.size, 0, none⟩, 4, 4, prW), (a1, 8, c1, eightI x), (a2, 8, c2, eightI y)] 26 ?_
    intro p hp
    simp only [List.mem_cons, List.not_mem_nil, or_false] at hp
    rcases hp with rfl | rfl | rfl
    · exact ⟨hrw.kept B2, fun h => by cases h⟩
    · exact ⟨(ho1.kept hb2).toRow, ho1.nil⟩
    · exact ⟨ho2.toRow, ho2.nil⟩
  have B3 : Below w.heap.size w (w2.alloc (.cells #[.slice (some ⟨w.heap.size, 0, none⟩) 4 4, .slice a1 8 c1, .slice a2 8 c2] 26)) := B2'.alloc B2'.size _
  clear ho1 ho2 hrw
  go_wp2_with fail
  refine (specHashAll_any _ 3 3 [prW, eightI x, eightI y] _ HRS.out (by decide) HT.out).mono ?_
  rintro e w3 ⟨rfl, hb3⟩
  go_wp2
  go_ret
  exact ⟨rfl, keepT B3 hb3⟩

set_option maxRecDepth 10000 in
set_option maxHeartbeats 1000000 in
theorem pairOf_any (x y : Int) (w : World) (hx : U64 x) (hy : U64 y) :
    Calls Tryz.prog 73 #[.int .u64 x, .int .u64 y] w fun e w' => e = .returned (.int .u64 (pairN x y)) ∧ Below w.heap.size w w' := by
  have HND : Hid (hashD (strL ⟨#[112, 97, 105, 114]⟩) [x, y] = pairN x y) := by show _ = _; rw [show strL ⟨#[112, 97, 105, 114]⟩ = prW by decide]; rfl
  have hbb : Below w.heap.size w (w.alloc (.cells #[.int .u64 x, .int .u64 y] 23)) := (Below.refl _ _).alloc (Nat.le_refl _) _
  go_enter Tryz.func73, Tryz.ntmps73
  go_wp2_with fail
  refine (hashDigests_any _ _ 2 2 [x, y] _ (rowU_two w x y hx hy) (by decide) (by decide)).mono ?_
  rintro e w3 ⟨rfl, hb3⟩
  rw [HND.out]
  go_wp2
  go_ret
  exact ⟨rfl, keepT hbb hb3⟩

/-- The greatest power of two below n. -/
def hk (n : Nat) : Nat := 2 ^ Nat.log2 (n - 1)
theorem hk_pos (n : Nat) : 0 < hk n := Nat.pow_pos (by decide)
theorem hk_lt {n : Nat} (h : 2 ≤ n) : hk n < n := by
  have := Nat.log2_self_le (n := n - 1) (by omega)
  unfold hk; omega
theorem hk_ge (n : Nat) : n ≤ 2 * hk n := by
  have h : n - 1 < 2 ^ (Nat.log2 (n - 1) + 1) := Nat.lt_log2_self
  rw [Nat.pow_succ] at h
  unfold hk; omega
theorem pow_uniq {a b n : Nat} (ha : 2 ^ a < n) (ha2 : n ≤ 2 * 2 ^ a) (hb : 2 ^ b < n) (hb2 : n ≤ 2 * 2 ^ b) : a = b := by
  rcases Nat.lt_trichotomy a b with h | h | h
  · have := Nat.pow_le_pow_right (n := 2) (by decide) (show a + 1 ≤ b by omega)
    rw [Nat.pow_succ] at this
    omega
  · exact h
  · have := Nat.pow_le_pow_right (n := 2) (by decide) (show b + 1 ≤ a by omega)
    rw [Nat.pow_succ] at this
    omega
theorem hk_of {n k : Nat} (hp : ∃ j, k = 2 ^ j) (h1 : k = 1 ∨ k < n) (h2 : n ≤ 2 * k) : hk n = k := by
  obtain ⟨j, rfl⟩ := hp
  rcases Nat.lt_or_ge n 2 with hn | hn
  · have e : n - 1 = 0 := by omega
    have hp := Nat.pow_pos (n := j) (show 0 < 2 by decide)
    unfold hk
    rw [e]
    have : 2 ^ j = 1 := by omega
    rw [this]; rfl
  · have hl := hk_lt hn
    have hg := hk_ge n
    unfold hk at hl hg ⊢
    rw [pow_uniq hl hg (by rcases h1 with h | h <;> omega) h2]
theorem hk_pow (n : Nat) : ∃ j, hk n = 2 ^ j := ⟨_, rfl⟩
theorem hk_even {n : Nat} (h : 3 ≤ n) : hk n % 2 = 0 := by
  obtain ⟨j, hj⟩ := hk_pow n
  have hg := hk_ge n
  cases j with
  | zero => rw [hj] at hg; simp at hg; omega
  | succ j => rw [hj, Nat.pow_succ]; omega
theorem hk_half {n : Nat} (h : 3 ≤ n) : hk ((n + 1) / 2) = hk n / 2 := by
  obtain ⟨j, hj⟩ := hk_pow n
  have hg := hk_ge n
  have hl := hk_lt (show 2 ≤ n by omega)
  have he := hk_even h
  refine hk_of ?_ (.inr (by omega)) (by omega)
  cases j with
  | zero => rw [hj] at he; simp at he
  | succ j => exact ⟨j, by rw [hj, Nat.pow_succ]; omega⟩
theorem hk_two : hk 2 = 1 := rfl

set_option maxRecDepth 10000 in
set_option maxHeartbeats 1000000 in
theorem l15Half_any (n : Nat) (w : World) (hn : n ≤ 1000000) :
    Calls Tryz.prog 46 #[.int .i64 n] w fun e w' => e = .returned (.int .i64 (hk n : Nat)) ∧ w' = w := by
  have HN : Hid (n ≤ 1000000) := hn
  go_enter Tryz.func46, Tryz.ntmps46
  go_wp2
  go_loop [3] (fun kk => ∃ k : Nat, kk = .int .i64 k ∧ 0 < k ∧ k ≤ 1000000 ∧ Hid (∃ j, k = 2 ^ j) ∧ Hid (k = 1 ∨ k < n)) (fun kk => n - (intOf kk).toNat)
  case atStart => exact ⟨1, rfl, by decide, by decide, ⟨0, rfl⟩, .inl rfl⟩
  case round =>
    obtain ⟨k, rfl, h0, h1, HJ, HK⟩ := hrel
    by_cases hlt : 2 * k < n
    · have hlti : 2 * (k : Int) < (n : Int) := by omega
      go_wp2
      go_round
      case rel => exact ⟨2 * k, by go_num, by omega, by have := HN.out; omega, by obtain ⟨j, hj⟩ := HJ.out; exact ⟨j + 1, by rw [hj, Nat.pow_succ]; omega⟩, .inr (by omega)⟩
      case measure => simp [intOf]; omega
    · have hlti : ¬ 2 * (k : Int) < (n : Int) := by omega
      have HE : Hid (hk n = k) := hk_of HJ.out HK.out (by omega)
      go_wp2
      go_ret
      exact ⟨by rw [HE.out]; rfl, rfl⟩

end Go.Proofs.YtdahihomjpiiaaaGreat

namespace Go.Proofs.YtdahihomjpiiaaaGreat
open Go.RowKit Go.Sort

/-- The root of a row. -/
def rootL (zs : List Int) : Int :=
  if zs.length = 0 then 0
  else if _h1 : zs.length ≤ 1 then zs.getD 0 0
  else pairN (rootL (zs.take (hk zs.length))) (rootL (zs.drop (hk zs.length)))
termination_by zs.length
decreasing_by
  · rw [List.length_take]; have := hk_lt (show 2 ≤ zs.length by omega); omega
  · rw [List.length_drop]; have := hk_pos zs.length; omega
theorem rootL_nil : rootL [] = 0 := by rw [rootL]; rfl
theorem rootL_one (x : Int) : rootL [x] = x := by rw [rootL]; simp
theorem rootL_more (zs : List Int) (h : 2 ≤ zs.length) : rootL zs = pairN (rootL (zs.take (hk zs.length))) (rootL (zs.drop (hk zs.length))) := by
  conv => lhs; rw [rootL]
  rw [if_neg (by omega), dif_neg (by omega)]
theorem rootL_bd (zs : List Int) (h : ∀ k, U64 (zs.getD k 0)) : U64 (rootL zs) := by
  rw [rootL]
  split
  · simp [U64]
  · split
    · exact h 0
    · exact pairN_bd _ _
theorem u64_drop {zs : List Int} (h : ∀ k, U64 (zs.getD k 0)) (j : Nat) : ∀ k, U64 ((zs.drop j).getD k 0) := by
  intro k
  have := h (j + k)
  simpa [List.getD_eq_getElem?_getD, List.getElem?_drop] using this
theorem RowU.drop {w : World} {b off n : Nat} {zs : List Int} (h : RowU w (some ⟨b, off, none⟩) n zs) (k : Nat) (hk : k ≤ n) : RowU w (some ⟨b, off + k, none⟩) (n - k) (zs.drop k) := by
  refine ⟨by rw [List.length_drop, h.len], fun j hj => ?_, u64_drop h.rng k⟩
  obtain ⟨b', off', ha, hb, hc⟩ := h.get (k + j) (by omega)
  simp at ha
  obtain ⟨rfl, rfl⟩ := ha
  exact ⟨b, off + k, rfl, hb, by rw [Nat.add_assoc, hc]; simp [List.getD_eq_getElem?_getD, List.getElem?_drop]⟩
/-- Neighbours paired, a last one without a neighbour as it is. -/
def pairUp : List Int → List Int
  | [] => []
  | [x] => [x]
  | x :: y :: r => pairN x y :: pairUp r
theorem pairUp_len : ∀ zs : List Int, (pairUp zs).length = (zs.length + 1) / 2
  | [] => rfl
  | [_] => by simp [pairUp]
  | x :: y :: r => by rw [pairUp, List.length_cons, pairUp_len r, List.length_cons, List.length_cons]; omega
theorem pairUp_get : ∀ (zs : List Int) (i : Nat), i < zs.length / 2 → (pairUp zs).getD i 0 = pairN (zs.getD (2 * i) 0) (zs.getD (2 * i + 1) 0)
  | [], i, h => by simp at h
  | [_], i, h => by simp at h
  | x :: y :: r, 0, _ => by simp [pairUp]
  | x :: y :: r, i + 1, h => by
    have := pairUp_get r i (by simp at h; omega)
    rw [pairUp, List.getD_cons_succ, this, show 2 * (i + 1) = 2 * i + 1 + 1 by omega]
    simp
theorem pairUp_last : ∀ (zs : List Int), zs.length % 2 = 1 → (pairUp zs).getD (zs.length / 2) 0 = zs.getD (zs.length - 1) 0
  | [], h => by simp at h
  | [_], h => by simp [pairUp]
  | x :: y :: r, h => by
    have := pairUp_last r (by simp at h; omega)
    rw [pairUp, List.length_cons, List.length_cons, show (r.length + 1 + 1) / 2 = r.length / 2 + 1 by omega, List.getD_cons_succ, this, show r.length + 1 + 1 - 1 = (r.length - 1) + 1 + 1 by simp at h; omega]
    simp
theorem pairUp_append : ∀ (a b : List Int), a.length % 2 = 0 → pairUp (a ++ b) = pairUp a ++ pairUp b
  | [], b, _ => rfl
  | [_], b, h => by simp at h
  | x :: y :: r, b, h => by
    have := pairUp_append r b (by simp at h; omega)
    show pairN x y :: pairUp (r ++ b) = pairN x y :: (pairUp r ++ pairUp b)
    rw [this]
theorem rootL_up : ∀ (m : Nat) (zs : List Int), zs.length ≤ m → rootL (pairUp zs) = rootL zs := by
  intro m
  induction m with
  | zero =>
    intro zs h
    rw [List.eq_nil_of_length_eq_zero (show zs.length = 0 by omega)]; rfl
  | succ m ih =>
    intro zs h
    match zs, h with
    | [], _ => rfl
    | [x], _ => rfl
    | [x, y], _ =>
      rw [show pairUp [x, y] = [pairN x y] from rfl, rootL_one, rootL_more [x, y] (by simp)]
      show _ = pairN (rootL [x]) (rootL [y])
      rw [rootL_one, rootL_one]
    | x :: y :: z :: r, h =>
      have h3 : 3 ≤ (x :: y :: z :: r).length := by simp
      generalize x :: y :: z :: r = zs at h h3
      have hl := hk_lt (show 2 ≤ zs.length by omega)
      have hp := hk_pos zs.length
      have he := hk_even h3
      have e : pairUp zs = pairUp (zs.take (hk zs.length)) ++ pairUp (zs.drop (hk zs.length)) := by
        rw [← pairUp_append _ _ (by rw [List.length_take]; omega), List.take_append_drop]
      have el : (pairUp (zs.take (hk zs.length))).length = hk zs.length / 2 := by rw [pairUp_len, List.length_take]; omega
      rw [rootL_more zs (by omega), rootL_more (pairUp zs) (by rw [pairUp_len]; omega), pairUp_len, hk_half h3]
      rw [e, List.take_left' el, List.drop_left' el]
      rw [ih (zs.take (hk zs.length)) (by rw [List.length_take]; omega), ih (zs.drop (hk zs.length)) (by rw [List.length_drop]; omega)]
/-- The row while it is paired up in place. -/
def mixU (zs : List Int) (k : Nat) : List Int := (pairUp zs).take k ++ zs.drop k
theorem mixU_zero (zs : List Int) : mixU zs 0 = zs := by simp [mixU]
theorem mixU_len (zs : List Int) (k : Nat) (h : k ≤ (zs.length + 1) / 2) : (mixU zs k).length = zs.length := by
  unfold mixU; rw [List.length_append, List.length_take, List.length_drop, pairUp_len]; omega
theorem mixU_get (zs : List Int) (k j : Nat) (h : k ≤ (zs.length + 1) / 2) (hj : k ≤ j) : (mixU zs k).getD j 0 = zs.getD j 0 := by
  unfold mixU
  have e : ((pairUp zs).take k).length = k := by rw [List.length_take, pairUp_len]; omega
  rw [List.getD_eq_getElem?_getD, List.getElem?_append_right (by omega), e, List.getElem?_drop, List.getD_eq_getElem?_getD, show k + (j - k) = j by omega]
theorem mixU_put (zs : List Int) (k : Nat) (h : k < (zs.length + 1) / 2) (h2 : k < zs.length) : (mixU zs k).set k ((pairUp zs).getD k 0) = mixU zs (k + 1) := by
  unfold mixU
  have hl : k < (pairUp zs).length := by rw [pairUp_len]; exact h
  have e : ((pairUp zs).take k).length = k := by rw [List.length_take]; omega
  rw [List.drop_eq_getElem_cons h2, set_append_mid _ _ _ _ _ e, List.take_succ_eq_append_getElem hl, List.append_assoc]
  have : (pairUp zs).getD k 0 = (pairUp zs)[k] := by simp [hl]
  rw [this]
  rfl
theorem mixU_all (zs : List Int) : (mixU zs ((zs.length + 1) / 2)).take ((zs.length + 1) / 2) = pairUp zs := by
  unfold mixU
  rw [← pairUp_len, List.take_of_length_le (Nat.le_refl _), List.take_left' rfl]
theorem getD_ne {α : Type} (l : List α) (d : α) (k : Nat) (h : ¬ k < l.length) : l.getD k d = d := by
  rw [List.getD_eq_getElem?_getD, List.getElem?_eq_none (by omega)]; rfl
theorem pairUp_bd (zs : List Int) (h : ∀ k, U64 (zs.getD k 0)) : ∀ k, U64 ((pairUp zs).getD k 0) := by
  intro k
  by_cases h1 : k < zs.length / 2
  · rw [pairUp_get zs k h1]; exact pairN_bd _ _
  · by_cases h2 : k < (zs.length + 1) / 2
    · have e : k = zs.length / 2 := by omega
      rw [e, pairUp_last zs (by omega)]
      exact h _
    · rw [getD_ne _ _ _ (by rw [pairUp_len]; exact h2)]; simp [U64]
theorem mixU_bd (zs : List Int) (h : ∀ k, U64 (zs.getD k 0)) (k : Nat) : ∀ j, U64 ((mixU zs k).getD j 0) := by
  intro j
  unfold mixU
  rw [List.getD_eq_getElem?_getD, List.getElem?_append]
  split
  · rw [← List.getD_eq_getElem?_getD]; exact u64_take (pairUp_bd zs h) k j
  · rw [← List.getD_eq_getElem?_getD]; exact u64_drop h k _
theorem OwnU.take {B : Nat} {w : World} {a : Option Addr} {n cap : Nat} {zs : List Int} (h : OwnU B w a n cap zs) (m : Nat) (hm : m ≤ n) (hn : 0 < n) : OwnU B w a m cap (zs.take m) := by
  have hl := h.len
  refine ⟨⟨by simp; omega, ?_⟩, u64_take h.rng m⟩
  rcases h.row.2 with ⟨_, h0⟩ | ⟨g, cap', cur, hv, hb, hg, h1, h2, h3, h4⟩
  · omega
  · simp only [Value.slice.injEq] at hv
    obtain ⟨rfl, _, rfl⟩ := hv
    refine .inr ⟨g, cap, cur, rfl, hb, hg, by omega, h2, h3, ?_⟩
    rw [List.map_take, ← h4, List.take_take]
    congr 1
    omega

end Go.Proofs.YtdahihomjpiiaaaGreat

namespace Go.Proofs.YtdahihomjpiiaaaGreat
open Go.RowKit Go.Sort

set_option maxRecDepth 10000 in
set_option maxHeartbeats 2000000 in
theorem pairedUp_any (B g n c : Nat) (zs : List Int) (w : World) (h : OwnU B w (some ⟨g, 0, none⟩) n c zs) (hn : n ≤ 1000) (hn0 : 0 < n) (hnc : n ≤ c) :
    Calls Tryz.prog 63 #[.slice (some ⟨g, 0, none⟩) n c] w fun e w' => e = .returned (.slice (some ⟨g, 0, none⟩) ((n + 1) / 2 : Nat) c) ∧ OwnU B w' (some ⟨g, 0, none⟩) ((n + 1) / 2) c (pairUp zs) ∧ Below B w w' := by
  obtain ⟨m, hm⟩ : ∃ m, m = n / 2 := ⟨_, rfl⟩
  have HM : Hid (m = n / 2) := hm
  have hmi : (n : Int) / 2 = (m : Int) := by omega
  clear hm
  have HL : Hid (zs.length = n) := h.len
  have HRG : Hid (∀ k, U64 (zs.getD k 0)) := h.rng
  have H0 : Hid (OwnU B w (some ⟨g, 0, none⟩) n c (mixU zs 0)) := by rw [mixU_zero]; exact h
  have hgB : B ≤ g := (h.shape hn0).elim fun x hx => by have := hx.1; simp at this; omega
  clear h
  have hm5 : m ≤ 500 := by have := HM.out; omega
  go_enter Tryz.func63, Tryz.ntmps63
  go_wp2
  go_loopw [9] (fun i wr => ∃ k : Nat, k ≤ m ∧ i = .int .i64 k ∧ Hid (OwnU B wr (some ⟨g, 0, none⟩) n c (mixU zs k)) ∧ Below B w wr) (fun i _ => m - (intOf i).toNat)
  case atStart => exact ⟨0, Nat.zero_le _, rfl, H0, Below.refl _ _⟩
  case round =>
    obtain ⟨k, hk, rfl, HO, hbr⟩ := hrel
    by_cases hlt : k < m
    · have h2n : 2 * k + 1 < n := by have := HM.out; omega
      have hgs : g < wr.heap.size := (HO.out.shape hn0).elim fun x hx => by have := hx.1; simp at this; omega
      obtain ⟨x, hx⟩ : ∃ x, x = zs.getD (2 * k) 0 := ⟨_, rfl⟩
      obtain ⟨y, hy⟩ : ∃ y, y = zs.getD (2 * k + 1) 0 := ⟨_, rfl⟩
      have hxb := HRG.out (2 * k)
      have hyb := HRG.out (2 * k + 1)
      rw [← hx] at hxb
      rw [← hy] at hyb
      have hk2 : k ≤ (zs.length + 1) / 2 := by rw [HL.out]; have := HM.out; omega
      have q0 : wr.cell? ⟨g, 2 * k, none⟩ = some (.int .u64 x) := by
        obtain ⟨b, off, e, _, hc⟩ := HO.out.toRow.get (2 * k) (by omega)
        simp only [Option.some.injEq, Addr.mk.injEq, and_true] at e
        obtain ⟨rfl, rfl⟩ := e
        rw [Nat.zero_add] at hc
        rw [hc, mixU_get zs k _ hk2 (by omega), hx]
      have q1 : wr.cell? ⟨g, 2 * k + 1, none⟩ = some (.int .u64 y) := by
        obtain ⟨b, off, e, _, hc⟩ := HO.out.toRow.get (2 * k + 1) (by omega)
        simp only [Option.some.injEq, Addr.mk.injEq, and_true] at e
        obtain ⟨rfl, rfl⟩ := e
        rw [Nat.zero_add] at hc
        rw [hc, mixU_get zs k _ hk2 (by omega), hy]
      have HV : Hid (pairN x y = (pairUp zs).getD k 0) := by show _ = _; rw [pairUp_get zs k (by rw [HL.out, ← HM.out]; exact hlt), hx, hy]
      have i2 : (k : Int) < (m : Int) := by omega
      have i3 : 2 * (k : Int) < (n : Int) := by omega
      have i4 : 2 * (k : Int) + 1 < (n : Int) := by omega
      have i5 : (k : Int) < (n : Int) := by omega
      have t1 : (2 * (k : Int)).toNat = 2 * k := by omega
      have t2 : (2 * (k : Int) + 1).toNat = 2 * k + 1 := by omega
      have u1 : IntKind.i64.wrap (2 * (k : Int)) = 2 * (k : Int) := by rw [IntKind.wrap_i64]; omega
      have u2 : IntKind.i64.wrap (2 * (k : Int) + 1) = 2 * (k : Int) + 1 := by rw [IntKind.wrap_i64]; omega
      have u3 : 0 ≤ 2 * (k : Int) := by omega
      have u4 : 0 ≤ 2 * (k : Int) + 1 := by omega
      clear hx hy
      have HST2 : Hid (∀ w7, Below wr.heap.size wr w7 → OwnU B w7 (some ⟨g, 0, none⟩) n c (mixU zs k)) := fun w7 h7 => HO.out.kept h7
      have hal : Below wr.heap.size wr wr.drew := (Below.refl _ _).drew
      have HBS : Hid (B ≤ wr.heap.size) := by show _ ≤ _; omega
      go_wp2_with fail
      go_region_with ((go_at_call 73; refine (pairOf_any x y _ hxb hyb).mono ?_; rintro e w3 ⟨rfl, hb3⟩; rw [HV.out]; have hb37 := keepT hal hb3; have hor := HST2.out _ hb37; have f0 : w3.frozen? ⟨g, k, none⟩ = false := hor.row.frozenAt _; have hvl : ((mixU zs k).map (Value.int .u64)).length = n * 1 := hor.row.1; obtain ⟨y0, hy0⟩ : ∃ y, w3.cell? ⟨g, k, none⟩ = some y := ⟨_, (hor.row.cellAt _ (by omega)).trans (List.getElem?_eq_getElem (by omega))⟩))
      all_goals
        have hs := (hor.row.stored k (.int .u64 ((pairUp zs).getD k 0))).1
        rw [← List.map_set, mixU_put zs k (by rw [HL.out]; have := HM.out; omega) (by rw [HL.out]; omega)] at hs
        have HN : Hid (OwnU B (w3.setCell ⟨g, k, none⟩ (.int .u64 ((pairUp zs).getD k 0))) (some ⟨g, 0, none⟩) n c (mixU zs (k + 1))) := ⟨hs, mixU_bd zs HRG.out _⟩
        have HBN : Hid (Below B w (w3.setCell ⟨g, k, none⟩ (.int .u64 ((pairUp zs).getD k 0)))) := (hbr.trans (hb37.mono HBS.out)).setCell hgB _
        clear hs hor hb3 hb37 hbr HO hvl HST2 hal
        go_wp2
        go_roundw
        case rel => exact ⟨k + 1, by omega, by go_num, HN, HBN.out⟩
        case measure => simp [intOf]; omega
    · obtain rfl : k = m := by omega
      by_cases hodd : n % 2 = 1
      · have hoi : (n : Int) % 2 = 1 := by omega
        have i5 : (k : Int) < (n : Int) := by have := HM.out; omega
        have i6 : (n : Int) - 1 < (n : Int) := by omega
        have i7 : 0 ≤ (n : Int) - 1 := by omega
        have t1 : ((n : Int) - 1).toNat = n - 1 := by omega
        have hkn : k ≤ n - 1 := by have := HM.out; omega
        have hk2 : k ≤ (zs.length + 1) / 2 := by rw [HL.out]; have := HM.out; omega
        obtain ⟨x, hx⟩ : ∃ x, x = (pairUp zs).getD k 0 := ⟨_, rfl⟩
        have q0 : wr.cell? ⟨g, n - 1, none⟩ = some (.int .u64 x) := by
          obtain ⟨b, off, e, _, hc⟩ := HO.out.toRow.get (n - 1) (by omega)
          simp only [Option.some.injEq, Addr.mk.injEq, and_true] at e
          obtain ⟨rfl, rfl⟩ := e
          rw [Nat.zero_add] at hc
          rw [hc, mixU_get zs k _ hk2 (by omega), hx]
          have := pairUp_last zs (by rw [HL.out]; exact hodd)
          rw [HL.out, ← HM.out] at this
          rw [this]
        have hor := HO.out
        have f0 : wr.frozen? ⟨g, k, none⟩ = false := hor.row.frozenAt _
        have hvl : ((mixU zs k).map (Value.int .u64)).length = n * 1 := hor.row.1
        obtain ⟨y0, hy0⟩ : ∃ y, wr.cell? ⟨g, k, none⟩ = some y := ⟨_, (hor.row.cellAt _ (by omega)).trans (List.getElem?_eq_getElem (by omega))⟩
        have hs := (hor.row.stored k (.int .u64 ((pairUp zs).getD k 0))).1
        rw [← List.map_set, mixU_put zs k (by rw [HL.out]; have := HM.out; omega) (by rw [HL.out]; omega), ← hx] at hs
        have HN : Hid (OwnU B (wr.setCell ⟨g, k, none⟩ (.int .u64 x)) (some ⟨g, 0, none⟩) ((n + 1) / 2) c (pairUp zs)) := by
          have hh : OwnU B (wr.setCell ⟨g, k, none⟩ (.int .u64 x)) (some ⟨g, 0, none⟩) n c (mixU zs (k + 1)) := ⟨hs, mixU_bd zs HRG.out _⟩
          have := hh.take ((n + 1) / 2) (by omega) hn0
          have e := mixU_all zs
          rw [HL.out, show (n + 1) / 2 = k + 1 by have := HM.out; omega] at e
          rw [show (n + 1) / 2 = k + 1 by have := HM.out; omega, e] at this
          rw [show (n + 1) / 2 = k + 1 by have := HM.out; omega]
          exact this
        have HBN : Hid (Below B w (wr.setCell ⟨g, k, none⟩ (.int .u64 x))) := hbr.setCell hgB _
        have HE : Hid ((n + 1) / 2 = k + 1) := by show _ = _; have := HM.out; omega
        have hc1 : (k : Int) + 1 ≤ (c : Int) := by omega
        have t3 : ((k : Int) + 1).toNat = k + 1 := by omega
        clear hs hor hvl HO hx H0
        go_wp2
        go_ret
        exact ⟨by rw [HE.out]; rfl, HN.out, HBN.out⟩
      · have hoi : (n : Int) % 2 = 0 := by omega
        have hc1 : (k : Int) ≤ (c : Int) := by have := HM.out; omega
        have HN : Hid (OwnU B wr (some ⟨g, 0, none⟩) ((n + 1) / 2) c (pairUp zs)) := by
          have := HO.out.take ((n + 1) / 2) (by omega) hn0
          have e := mixU_all zs
          rw [HL.out, show (n + 1) / 2 = k by have := HM.out; omega] at e
          rw [show (n + 1) / 2 = k by have := HM.out; omega, e] at this
          rw [show (n + 1) / 2 = k by have := HM.out; omega]
          exact this
        have HE : Hid ((n + 1) / 2 = k) := by show _ = _; have := HM.out; omega
        clear HO H0
        go_wp2
        go_ret
        exact ⟨by rw [HE.out]; rfl, HN.out, hbr⟩

end Go.Proofs.YtdahihomjpiiaaaGreat

namespace Go.Proofs.YtdahihomjpiiaaaGreat
open Go.RowKit Go.Sort

theorem OwnU.block {B : Nat} {w : World} {g n : Nat} {zs : List Int} (h : OwnU B w (some ⟨g, 0, none⟩) n n zs) : w.heap[g]? = some (.cells (zs.map (Value.int .u64)).toArray 23 (0, 0)) := by
  rcases h.row.2 with ⟨h0, _⟩ | ⟨g', cap', cur, hv, hb, hg, h1, h2, h3, h4⟩
  · simp at h0
  · simp only [Value.slice.injEq, Option.some.injEq, Addr.mk.injEq, and_true, true_and] at hv
    obtain ⟨rfl, rfl⟩ := hv
    rw [List.take_of_length_le (by simp; omega)] at h4
    rw [hg, ← h4]
theorem OwnU.of_block {B : Nat} {w : World} {g n : Nat} {zs : List Int} (h : w.heap[g]? = some (.cells (zs.map (Value.int .u64)).toArray 23 (0, 0))) (hB : B ≤ g) (hl : zs.length = n) (hm : n ≤ maxLen) (hr : ∀ k, U64 (zs.getD k 0)) : OwnU B w (some ⟨g, 0, none⟩) n n zs :=
  ⟨⟨by simp [hl], .inr ⟨g, n, _, rfl, hB, h, Nat.le_refl _, hm, by simp [hl], by simp [List.take_of_length_le, hl]⟩⟩, hr⟩
theorem splice_all {α : Type} (L cs : List α) (h : L.length = cs.length) : splice L 0 cs = cs := by
  unfold splice
  rw [List.take_zero, List.nil_append, List.drop_eq_nil_of_le (by omega), List.append_nil]
theorem copyU_src {w : World} {a : Option Addr} {n : Nat} {zs : List Int} {X : List Value} (h : RowU w a n zs) (hX : X = zs.map (Value.int .u64)) (hp : 0 < n) : ∃ ad, a = some ad ∧ ∀ j v, X[j]? = some v → w.cell? (ad.add j) = some v := by
  cases a with
  | none => exact absurd (rowU_none h).1 (by omega)
  | some ad => exact ⟨ad, rfl, by rw [hX]; exact rowU_cells h⟩
theorem Tryz.sizeU : (Tryz.prog.info? 23).map (·.size) = some 1 := by kernel_rfl

set_option maxRecDepth 10000 in
set_option maxHeartbeats 1000000 in
theorem copyRow_any (a : Option Addr) (n c : Nat) (zs : List Int) (w : World) (h : RowU w a n zs) (hn : n ≤ 1000) :
    Calls Tryz.prog 62 #[.slice a n c] w fun e w' => ∃ g, e = .returned (.slice (some ⟨g, 0, none⟩) n n) ∧ w.heap.size ≤ g ∧ OwnU w.heap.size w' (some ⟨g, 0, none⟩) n n zs ∧ Below w.heap.size w w' := by
  obtain ⟨i0, hi, hz0, hz1, hz2⟩ := info_parts Tryz.infoU
  have H0 : Hid (RowU w a n zs) := h
  have HL : Hid (zs.length = n) := h.len
  clear h
  obtain ⟨X, hX⟩ : ∃ X, X = zs.map (Value.int .u64) := ⟨_, rfl⟩
  have HX : Hid (X = zs.map (Value.int .u64)) := hX
  have HXL : Hid (X.length = n) := by show _ = _; rw [hX, List.length_map, HL.out]
  clear hX
  obtain ⟨Z, hZ⟩ : ∃ Z, Z = (List.replicate n (0 : Int)).map (Value.int .u64) := ⟨_, rfl⟩
  have HZL : Hid (Z.length = n) := by show _ = _; rw [hZ]; simp
  have HZ : Hid (Z = (List.replicate n (0 : Int)).map (Value.int .u64)) := hZ
  clear hZ
  go_enter Tryz.func62, Tryz.ntmps62
  go_wp2_with (first | (at_make; refine wpList_make_full _ rfl _ _ 22 rfl w.heap.size 23 i0 _ 1 Tryz.underlying22 hi hz0 hz1 _ _ _ _ n rfl rfl rfl rfl (by rw [hz2]; omega) (by unfold maxLen; omega) (by exact Nat.le_refl _) ?_; intro w2 hown hgrow) | (refine wpList_copy_splice rfl (.tmp 7) (.tmp 8) 22 22 rfl 23 Tryz.underlying22 Tryz.sizeU (some ⟨w.heap.size, 0, none⟩) a n n n c rfl rfl w.heap.size 0 Z 23 (by rw [HZ.out]; exact OwnU.block ⟨madeU hown, u64_rep n⟩) X (by rw [HXL.out]; simp) (fun hp => ⟨rfl, copyU_src (H0.out.kept ((Below.refl _ _).grown hgrow (Nat.le_refl _) (by simp))) HX.out (by rw [HXL.out] at hp; exact hp)⟩) (by rw [HXL.out, HZL.out]; omega) (by rw [HX.out]; exact ints_oneCell .u64 zs) w.heap.size w ((Below.refl _ _).grown hgrow (Nat.le_refl _) (by simp)) (Nat.le_refl _) ?_; intro w3 HG3 hB3))
  go_ret
  refine ⟨_, rfl, Nat.le_refl _, OwnU.of_block ?_ (Nat.le_refl _) HL.out (by unfold maxLen; omega) H0.out.rng, hB3⟩
  have := HG3.out
  rw [splice_all _ _ (by rw [HZL.out, HXL.out]), HX.out] at this
  exact this

set_option maxRecDepth 10000 in
set_option maxHeartbeats 1000000 in
theorem rootOf_any (a : Option Addr) (n c : Nat) (zs : List Int) (w : World) (h : RowU w a n zs) (hn : n ≤ 1000) :
    Calls Tryz.prog 38 #[.slice a n c] w fun e w' => e = .returned (.int .u64 (rootL zs)) ∧ Below w.heap.size w w' := by
  have H0 : Hid (RowU w a n zs) := h
  have HL : Hid (zs.length = n) := h.len
  clear h
  by_cases hn0 : n = 0
  · subst hn0
    have HZ : Hid (zs = []) := List.eq_nil_of_length_eq_zero HL.out
    go_enter Tryz.func38, Tryz.ntmps38
    go_wp2
    go_ret
    exact ⟨by rw [HZ.out, rootL_nil]; rfl, Below.refl _ _⟩
  · have z0 : ((n : Int) == 0) = false := by simp; omega
    have hne : ¬ (n : Int) = 0 := by omega
    go_enter Tryz.func38, Tryz.ntmps38
    go_wp2_with fail
    refine (copyRow_any a n c zs _ H0.out hn).mono ?_
    rintro e w1 ⟨g, rfl, hgB, ho1, hb1⟩
    have HO1 : Hid (OwnU w.heap.size w1 (some ⟨g, 0, none⟩) n n zs) := ho1
    clear ho1
    go_wp2
    go_loopw [3] (fun v wr => ∃ (m : Nat) (ms : List Int), v = .slice (some ⟨g, 0, none⟩) m n ∧ 0 < m ∧ m ≤ n ∧ Hid (OwnU w.heap.size wr (some ⟨g, 0, none⟩) m n ms) ∧ Hid (rootL ms = rootL zs) ∧ Below w.heap.size w wr) (fun v _ => match v with | .slice _ m _ => m | _ => 0)
    case atStart => exact ⟨n, zs, rfl, by omega, Nat.le_refl _, HO1, rfl, hb1⟩
    case round =>
      obtain ⟨m, ms, rfl, hm0, hmn, HO, HR, hbr⟩ := hrel
      by_cases h1 : 1 < m
      · have h1i : (1 : Int) < (m : Int) := by omega
        go_wp2_with fail
        refine (pairedUp_any w.heap.size g m n ms _ HO.out (by omega) hm0 hmn).mono ?_
        rintro e w2 ⟨rfl, ho2, hb2⟩
        have HO2 : Hid (OwnU w.heap.size w2 (some ⟨g, 0, none⟩) ((m + 1) / 2) n (pairUp ms)) := ho2
        have HR2 : Hid (rootL (pairUp ms) = rootL zs) := by show _ = _; rw [rootL_up ms.length ms (Nat.le_refl _), HR.out]
        have hbr2 : Below w.heap.size w w2 := hbr.trans hb2
        clear ho2 HO HR hbr hb2 HO1 hb1
        go_wp2
        go_roundw
        case rel => exact ⟨(m + 1) / 2, pairUp ms, rfl, by omega, by omega, HO2, HR2, hbr2⟩
        case measure => simp; omega
      · obtain rfl : m = 1 := by omega
        obtain ⟨b, off, e, hlb, hc⟩ := HO.out.toRow.get 0 (by omega)
        simp only [Option.some.injEq, Addr.mk.injEq, and_true] at e
        obtain ⟨rfl, rfl⟩ := e
        have HV : Hid (ms.getD 0 0 = rootL zs) := by
          show _ = _
          rw [← HR.out]
          match ms, HO.out.len with
          | [x], _ => rw [rootL_one]; rfl
        rw [Nat.zero_add, HV.out] at hc
        clear HO HR HO1 hb1
        go_wp2
        go_ret
        exact ⟨rfl, hbr⟩

set_option maxRecDepth 10000 in
set_option maxHeartbeats 1000000 in
theorem l15Root_any : ∀ (N : Nat) (a : Option Addr) (n c : Nat) (zs : List Int) (w : World), n ≤ N → RowU w a n zs → n ≤ 1000 → n ≤ c → c ≤ 9223372036854775807 →
    Calls Tryz.prog 26 #[.slice a n c] w fun e w' => e = .returned (.int .u64 (rootL zs)) ∧ Below w.heap.size w w' := by
  intro N
  induction N with
  | zero =>
    intro a n c zs w hN h hn hc hcm
    obtain rfl : n = 0 := by omega
    have HZ : Hid (zs = []) := List.eq_nil_of_length_eq_zero h.len
    clear h
    go_enter Tryz.func26, Tryz.ntmps26
    go_wp2
    go_ret
    exact ⟨by rw [HZ.out, rootL_nil]; rfl, Below.refl _ _⟩
  | succ N ih =>
    intro a n c zs w hN h hn hc hcm
    by_cases hn0 : n = 0
    · exact ih a n c zs w (by omega) h hn hc hcm
    have H0 : Hid (RowU w a n zs) := h
    have HL : Hid (zs.length = n) := h.len
    obtain ⟨b, off, rfl, hlb, hc0⟩ := h.get 0 (by omega)
    clear h
    by_cases h1 : n = 1
    · subst h1
      have HV : Hid (zs.getD 0 0 = rootL zs) := by
        show _ = _
        match zs, HL.out with
        | [x], _ => rw [rootL_one]; rfl
      rw [Nat.add_zero, HV.out] at hc0
      go_enter Tryz.func26, Tryz.ntmps26
      go_wp2
      go_ret
      exact ⟨rfl, Below.refl _ _⟩
    · have z0 : ((n : Int) == 0) = false := by simp; omega
      have z1 : ((n : Int) == 1) = false := by simp; omega
      have z2 : ¬ (n : Int) = 0 := by omega
      have z3 : ¬ (n : Int) = 1 := by omega
      clear hc0
      have hkl := hk_lt (show 2 ≤ n by omega)
      have hkp := hk_pos n
      obtain ⟨k, hkk⟩ : ∃ k, k = hk n := ⟨_, rfl⟩
      have HKK : Hid (k = hk n) := hkk
      rw [← hkk] at hkl hkp
      clear hkk
      have HV : Hid (pairN (rootL (zs.take k)) (rootL (zs.drop k)) = rootL zs) := by show _ = _; rw [rootL_more zs (by rw [HL.out]; omega), HL.out, HKK.out]
      have b1 := rootL_bd _ (u64_take H0.out.rng k)
      have b2 := rootL_bd _ (u64_drop H0.out.rng k)
      obtain ⟨r1, hr1⟩ : ∃ r1, r1 = rootL (zs.take k) := ⟨_, rfl⟩
      obtain ⟨r2, hr2⟩ : ∃ r2, r2 = rootL (zs.drop k) := ⟨_, rfl⟩
      have ca0 : Hid (∀ d os, Calls Tryz.prog 26 #[.slice (some ⟨b, off, none⟩) k c] (grow (redrawn w d) os) fun e w'' => e = .returned (.int .u64 r1) ∧ ∃ p : Regrown, w'' = grow (redrawn w p.d) p.os) := fun d os => Calls.regrown_of (by rw [hr1]; exact ih (some ⟨b, off, none⟩) k c (zs.take k) _ (by omega) ((H0.out.take k (by omega)).kept (below_regrown w d os)) (by omega) (by omega) hcm)
      have ca1 : Hid (∀ d os, Calls Tryz.prog 26 #[.slice (some ⟨b, off + k, none⟩) (n - k) (c - k)] (grow (redrawn w d) os) fun e w'' => e = .returned (.int .u64 r2) ∧ ∃ p : Regrown, w'' = grow (redrawn w p.d) p.os) := fun d os => Calls.regrown_of (by rw [hr2]; exact ih (some ⟨b, off + k, none⟩) (n - k) (c - k) (zs.drop k) _ (by omega) ((H0.out.drop k (by omega)).kept (below_regrown w d os)) (by omega) (by omega) (by omega))
      rw [← hr1, ← hr2] at HV
      rw [← hr1] at b1
      rw [← hr2] at b2
      have ca2 : Hid (∀ d os, Calls Tryz.prog 47 #[.int .u64 r1, .int .u64 r2] (grow (redrawn w d) os) fun e w'' => e = .returned (.int .u64 (rootL zs)) ∧ ∃ p : Regrown, w'' = grow (redrawn w p.d) p.os) := fun d os => Calls.regrown_of (by rw [← HV.out]; exact l15Pair_any r1 r2 _ b1 b2)
      clear hr1 hr2 HV b1 b2 ih
      have i1 : (k : Int) ≤ (n : Int) := by omega
      have i2 : (k : Int) ≤ (c : Int) := by omega
      have i3 : ¬ (k : Int) = (c : Int) := by omega
      have i4 : ¬ k = c := by omega
      have i5 : k < c := by omega
      go_enter Tryz.func26, Tryz.ntmps26
      go_wp2_with fail
      refine (l15Half_any n _ (by omega)).mono ?_
      rintro e w1 ⟨rfl, hw⟩
      have hw2 := hw.symm
      subst hw2
      rw [← HKK.out]
      go_wp2_with fail
      refine wp_region_quiet_below (by kernel_rfl) (by kernel_rfl) ?_
      go_big_quiet_step (fail)
      go_big_quiet_step (fail)
      go_big_quiet_step (fail)
      go_big_quiet_step (exact ca0.out _ _)
      go_big_quiet_step (fail)
      go_big_quiet_step (fail)
      go_big_quiet_step (fail)
      go_big_quiet_step (exact ca1.out _ _)
      go_big_quiet_step (exact ca2.out _ _)
      go_big_quiet_step (fail)
      refine wpQuiet_nil ?_
      intro _ hw'
      obtain ⟨⟨dq, osq⟩, hw''⟩ := hw'
      subst hw''
      have HBQ : Hid (Below w.heap.size w (grow (redrawn w dq) osq)) := below_regrown w dq osq
      go_wp2
      go_ret
      exact ⟨rfl, HBQ.out⟩

end Go.Proofs.YtdahihomjpiiaaaGreat

namespace Go.Proofs.YtdahihomjpiiaaaGreat
open Go.RowKit Go.Sort

def lrR (zs : List Int) : Int × Bool := if zs.length ≤ 200 then (rootL zs, true) else (0, false)

set_option maxRecDepth 10000 in
set_option maxHeartbeats 1000000 in
theorem specLogRoot_any (a : Option Addr) (n c : Nat) (zs : List Int) (w : World) (h : RowU w a n zs) (hc : n ≤ c) (hcm : c ≤ 9223372036854775807) :
    Calls Tryz.prog 14 #[.slice a n c] w fun e w' => e = .returned (.tuple #[.int .u64 (lrR zs).1, .bool (lrR zs).2]) ∧ Below w.heap.size w w' := by
  have H0 : Hid (RowU w a n zs) := h
  have HL : Hid (zs.length = n) := h.len
  clear h
  by_cases hb : n ≤ 200
  · have hbi : ¬ (200 : Int) < (n : Int) := by omega
    have HV : Hid (lrR zs = (rootL zs, true)) := by show _ = _; unfold lrR; rw [if_pos (by rw [HL.out]; exact hb)]
    go_enter Tryz.func14, Tryz.ntmps14
    go_wp2_with fail
    refine (l15Root_any n a n c zs _ (Nat.le_refl _) H0.out (by omega) hc hcm).mono ?_
    rintro e w1 ⟨rfl, hb1⟩
    go_wp2
    go_ret2
    exact ⟨by rw [HV.out]; rfl, hb1⟩
  · have hbi : (200 : Int) < (n : Int) := by omega
    have HV : Hid (lrR zs = (0, false)) := by show _ = _; unfold lrR; rw [if_neg (by rw [HL.out]; exact hb)]
    go_enter Tryz.func14, Tryz.ntmps14
    go_wp2
    go_ret2
    exact ⟨by rw [HV.out]; rfl, Below.refl _ _⟩

set_option maxRecDepth 10000 in
set_option maxHeartbeats 1000000 in
theorem implLogRoot_any (a : Option Addr) (n c : Nat) (zs : List Int) (w : World) (h : RowU w a n zs) :
    Calls Tryz.prog 19 #[.slice a n c] w fun e w' => e = .returned (.tuple #[.int .u64 (lrR zs).1, .bool (lrR zs).2]) ∧ Below w.heap.size w w' := by
  have H0 : Hid (RowU w a n zs) := h
  have HL : Hid (zs.length = n) := h.len
  clear h
  by_cases hb : n ≤ 200
  · have hbi : ¬ (200 : Int) < (n : Int) := by omega
    have HV : Hid (lrR zs = (rootL zs, true)) := by show _ = _; unfold lrR; rw [if_pos (by rw [HL.out]; exact hb)]
    go_enter Tryz.func19, Tryz.ntmps19
    go_wp2_with fail
    refine (rootOf_any a n c zs _ H0.out (by omega)).mono ?_
    rintro e w1 ⟨rfl, hb1⟩
    go_wp2
    go_ret2
    exact ⟨by rw [HV.out]; rfl, hb1⟩
  · have hbi : (200 : Int) < (n : Int) := by omega
    have HV : Hid (lrR zs = (0, false)) := by show _ = _; unfold lrR; rw [if_neg (by rw [HL.out]; exact hb)]
    go_enter Tryz.func19, Tryz.ntmps19
    go_wp2
    go_ret2
    exact ⟨by rw [HV.out]; rfl, Below.refl _ _⟩

def enW : List Int := [101, 110, 116, 114, 121]
theorem enW_byte : ∀ k, 0 ≤ enW.getD k 0 ∧ enW.getD k 0 ≤ 255 := bytes_of_all (by decide)
def entN (bs : List Int) : Int := hashL (partsL [enW, bs])
theorem ent_total (bs : List Int) (h : bs.length ≤ 1048576) : total [enW, bs] ≤ 2097152 := by unfold total; simp [enW]; omega

end Go.Proofs.YtdahihomjpiiaaaGreat

namespace Go.Proofs.YtdahihomjpiiaaaGreat
open Go.RowKit Go.Sort

theorem OwnU.blk {B : Nat} {w : World} {a : Option Addr} {n cap : Nat} {zs : List Int} (h : OwnU B w a n cap zs) : ∀ x, a = some x → B ≤ x.block ∧ x.block < w.heap.size := by
  intro x hx
  subst hx
  exact h.row.lt x.block rfl
theorem RowU.grownU {w w' : World} {a b : Option Addr} {n cap m : Nat} {ys : List Int} (h : RowU w b m ys) (hg : w.grownBy w' (Value.slice a n cap).ownBlock) (hne : ∀ x y, a = some x → b = some y → x.block ≠ y.block) : RowU w' b m ys := by
  refine ⟨h.len, fun k hk => ?_, h.rng⟩
  obtain ⟨b', off, rfl, hlt, hc⟩ := h.get k hk
  refine ⟨b', off, rfl, Nat.lt_of_lt_of_le hlt hg.size, (World.cell?_of_block (a := ⟨b', off + k, none⟩) (hg.block b' hlt (fun e => ?_))).trans hc⟩
  cases a with
  | none => simp [Value.ownBlock] at e
  | some x => simp [Value.ownBlock] at e; exact hne x _ rfl rfl e.symm
theorem OwnU.grownU {B : Nat} {w w' : World} {a b : Option Addr} {n cap m c : Nat} {ys : List Int} (h : OwnU B w b m c ys) (hg : w.grownBy w' (Value.slice a n cap).ownBlock) (hne : ∀ x y, a = some x → b = some y → x.block ≠ y.block) : OwnU B w' b m c ys := by
  refine ⟨h.row.kept hg ?_, h.rng⟩
  cases b with
  | none => exact .inl rfl
  | some y =>
    refine .inr (fun e => ?_)
    cases a with
    | none => simp [Value.ownBlock] at e
    | some x => simp [Value.ownBlock] at e; exact hne x y rfl rfl e.symm
theorem below_grownU {B : Nat} {w0 w w' : World} {a : Option Addr} {n cap : Nat} (hb : Below B w0 w) (hB : B ≤ w.heap.size) (hg : w.grownBy w' (Value.slice a n cap).ownBlock) (ha : ∀ x, a = some x → B ≤ x.block) : Below B w0 w' := by
  refine hb.grown hg hB (fun k hk => ?_)
  cases a with
  | none => simp [Value.ownBlock] at hk
  | some x => simp [Value.ownBlock] at hk; subst hk; exact ha x rfl

set_option maxRecDepth 10000 in
set_option maxHeartbeats 1000000 in
theorem markU_any (B : Nat) (a : Option Addr) (n cap k : Nat) (zs : List Int) (w : World) (h : OwnU B w a n cap zs) (hn : n ≤ 1000000000) (hk : k ≤ 1000000000) :
    Calls Tryz.prog 11 #[.slice a n cap, .int .i64 k] w fun e w' => e = .returned (.int .i64 (k + n : Nat)) ∧ OwnU B w' a n cap (marksU k n) ∧ w.grownBy w' (Value.slice a n cap).ownBlock := by
  have HL : Hid (zs.length = n) := h.len
  have HRG : Hid (∀ i, U64 (zs.getD i 0)) := h.rng
  have H0 : Hid (OwnU B w a n cap (mkU zs k 0)) := by rw [mkU_zero]; exact h
  clear h
  go_enter Tryz.func11, Tryz.ntmps11
  go_wp2
  go_loopw [1, 5] (fun kk i wr => ∃ j : Nat, j ≤ n ∧ i = .int .i64 j ∧ kk = .int .i64 (k + j : Nat) ∧ Hid (OwnU B wr a n cap (mkU zs k j)) ∧ Hid (w.grownBy wr (Value.slice a n cap).ownBlock)) (fun _ i _ => n - (intOf i).toNat)
  case atStart => exact ⟨0, Nat.zero_le _, rfl, rfl, H0, World.grownBy.refl _ _⟩
  case round =>
    obtain ⟨j, hj, rfl, rfl, HO, HG⟩ := hrel
    by_cases hlt : j < n
    · obtain ⟨g, rfl, hgB, hgs⟩ := HO.out.shape (by omega)
      have hlti : (j : Int) < (n : Int) := by omega
      have hfr : wr.frozen? ⟨g, j, none⟩ = false := HO.out.row.frozenAt j
      have hvl : ((mkU zs k j).map (Value.int .u64)).length = n * 1 := HO.out.row.1
      obtain ⟨y, hy⟩ : ∃ y, wr.cell? ⟨g, j, none⟩ = some y := ⟨_, (HO.out.row.cellAt j (by omega)).trans (List.getElem?_eq_getElem (by omega))⟩
      have hs := HO.out.row.stored j (.int .u64 ((k + j : Nat) : Int))
      have hs1 := hs.1
      rw [← List.map_set, mkU_set zs k j (by rw [HL.out]; exact hlt)] at hs1
      have HN : Hid (OwnU B (wr.setCell ⟨g, j, none⟩ (.int .u64 ((k + j : Nat) : Int))) (some ⟨g, 0, none⟩) n cap (mkU zs k (j + 1))) := ⟨hs1, mkU_bd zs HRG.out k (j + 1) (by omega) (by rw [HL.out]; omega)⟩
      have HGN : Hid (w.grownBy (wr.setCell ⟨g, j, none⟩ (.int .u64 ((k + j : Nat) : Int))) (Value.slice (some ⟨g, 0, none⟩) n cap).ownBlock) := grown_trans HG.out hs.2
      have u1 : IntKind.u64.wrap ((k : Int) + (j : Int)) = (k : Int) + (j : Int) := by rw [IntKind.wrap_u64]; omega
      clear hs hs1 hvl HO HG
      go_wp2
      go_roundw
      case rel => exact ⟨j + 1, by omega, by go_num, by go_num, by have := HN.out; rw [Int.natCast_add] at this; exact this, by have := HGN.out; rw [Int.natCast_add] at this; exact this⟩
      case measure => simp [intOf]; omega
    · obtain rfl : j = n := by omega
      have HF : Hid (OwnU B wr a j cap (marksU k j)) := by have := HO.out; rwa [mkU_all zs k j HL.out] at this
      go_wp2
      go_ret
      exact ⟨rfl, HF.out, HG.out⟩

end Go.Proofs.YtdahihomjpiiaaaGreat

