import Derived.Test.YtmoekmonkpihhaaGreatTS3
import Derived.Lib.QuietBelow
import Derived.Laws.CopyOwn
import Derived.Test.YtmoekmonkpihhaaGreatSA1
import Derived.Deep.RegionHeldLaw
import Derived.Deep.DeepCutAuto
namespace Go.Proofs.YtmoekmonkpihhaaGreat
open Go.RowKit

def prW : List Int := [112, 97, 105, 114]
theorem prW_byte : ∀ k, 0 ≤ prW.getD k 0 ∧ prW.getD k 0 ≤ 255 := bytes_of_all (by decide)
/-- The pair of two digests. -/
def pairN (x y : Int) : Int := hashD prW [x, y]
theorem pairN_bd (x y : Int) : U64 (pairN x y) := hashD_bd _ _
theorem rowU_two (w : World) (x y : Int) (hx : U64 x) (hy : U64 y) : RowU (w.alloc (.cells #[.int .u64 x, .int .u64 y] 22)) (some ⟨w.heap.size, 0, none⟩) 2 [x, y] := by
  refine ⟨rfl, fun k hk => ⟨w.heap.size, 0, rfl, by simp, ?_⟩, fun k => ?_⟩
  · rw [Nat.zero_add, cell_of_row _ w.heap.size k _ 22 _ (heap_alloc_new w _)]
    match k, hk with
    | 0, _ => rfl
    | 1, _ => rfl
  · match k with
    | 0 => exact hx
    | 1 => exact hy
    | k + 2 => simp [U64]

set_option maxRecDepth 10000 in
set_option maxHeartbeats 1000000 in
theorem l15Pair_any (x y : Int) (w : World) (hx : U64 x) (hy : U64 y) :
    Calls Tryz.prog 71 #[.int .u64 x, .int .u64 y] w fun e w' => e = .returned (.int .u64 (pairN x y)) ∧ Below w.heap.size w w' := by
  have HT : Hid (total [prW, eightI x, eightI y] ≤ 2097152) := by show _ ≤ _; rw [show [prW, eightI x, eightI y] = prW :: [x, y].map eightI from rfl, total_parts]; show 4 + _ ≤ _; simp
  have hcv := Lib.run_convert_bytes_const (P := Tryz.prog) w 25 5 #[.int .u8 112, .int .u8 97, .int .u8 105, .int .u8 114] 4 4 Tryz.underlying25 Tryz.underlying5
  have hrw : Row (w.alloc (.cells #[.int .u8 112, .int .u8 97, .int .u8 105, .int .u8 114] 5 (4, 5))) (some ⟨w.heap.size, 0, none⟩) 4 prW := row_word w prW (4, 5) prW_byte
  have hb0 : Below w.heap.size w (w.alloc (.cells #[.int .u8 112, .int .u8 97, .int .u8 105, .int .u8 114] 5 (4, 5))) := (Below.refl _ _).alloc (Nat.le_refl _) _
  go_enter Tryz.func71, Tryz.ntmps71
  go_wp2_with fail
  clear hcv
  obtain ⟨w0, hw0⟩ : ∃ w0, w0 = w.alloc (.cells #[.int .u8 112, .int .u8 97, .int .u8 105, .int .u8 114] 5 (4, 5)) := ⟨_, rfl⟩
  rw [← hw0] at hrw hb0 ⊢
  clear hw0
  refine (l1Eight_any x _ hx.1 hx.2).mono ?_
  rintro e w1 ⟨a1, c1, rfl, ho1, hb1⟩
  go_wp2_with fail
  refine (l1Eight_any y _ hy.1 hy.2).mono ?_
  rintro e w2 ⟨a2, c2, rfl, ho2, hb2⟩
  have B2 : Below w0.heap.size w0 w2 := keepT hb1 hb2
  have B2' : Below w.heap.size w w2 := keepT hb0 B2
  have HRS : Hid (Rows2 (w2.alloc (.cells #[.slice (some ⟨w.heap.size, 0, none⟩) 4 4, .slice a1 8 c1, .slice a2 8 c2] 25)) (some ⟨w2.heap.size, 0, none⟩) 3 [prW, eightI x, eightI y]) := by
    refine rows2_lit w2 [(some ⟨w.heap.size, 0, none⟩, 4, 4, prW), (a1, 8, c1, eightI x), (a2, 8, c2, eightI y)] 25 ?_
    intro p hp
    simp only [List.mem_cons, List.not_mem_nil, or_false] at hp
    rcases hp with rfl | rfl | rfl
    · exact ⟨hrw.kept B2, fun h => by cases h⟩
    · exact ⟨(ho1.kept hb2).toRow, ho1.nil⟩
    · exact ⟨ho2.toRow, ho2.nil⟩
  have B3 : Below w.heap.size w (w2.alloc (.cells #[.slice (some ⟨w.heap.size, 0, none⟩) 4 4, .slice a1 8 c1, .slice a2 8 c2] 25)) := B2'.alloc B2'.size _
  clear ho1 ho2 hrw
  go_wp2_with fail
  refine (specHashAll_any _ 3 3 [prW, eightI x, eightI y] _ HRS.out (by decide) HT.out).mono ?_
  rintro e w3 ⟨rfl, hb3⟩
  go_wp2
  go_ret
  exact ⟨rfl, keepT B3 hb3⟩

set_option maxRecDepth 10000 in
set_option maxHeartbeats 1000000 in
theorem pairOf_any (x y : Int) (w : World) (hx : U64 x) (hy : U64 y) :
    Calls Tryz.prog 105 #[.int .u64 x, .int .u64 y] w fun e w' => e = .returned (.int .u64 (pairN x y)) ∧ Below w.heap.size w w' := by
  have HND : Hid (hashD (strL ⟨#[112, 97, 105, 114]⟩) [x, y] = pairN x y) := by show _ = _; rw [show strL ⟨#[112, 97, 105, 114]⟩ = prW by decide]; rfl
  have hbb : Below w.heap.size w (w.alloc (.cells #[.int .u64 x, .int .u64 y] 22)) := (Below.refl _ _).alloc (Nat.le_refl _) _
  go_enter Tryz.func105, Tryz.ntmps105
  go_wp2_with fail
  refine (hashDigests_any _ _ 2 2 [x, y] _ (rowU_two w x y hx hy) (by decide) (by decide)).mono ?_
  rintro e w3 ⟨rfl, hb3⟩
  rw [HND.out]
  go_wp2
  go_ret
  exact ⟨rfl, keepT hbb hb3⟩

/-- The greatest power of two below n. -/
def hk (n : Nat) : Nat := 2 ^ Nat.log2 (n - 1)
theorem hk_pos (n : Nat) : 0 < hk n := Nat.pow_pos (by decide)
theorem hk_lt {n : Nat} (h : 2 ≤ n) : hk n < n := by
  have := Nat.log2_self_le (n := n - 1) (by omega)
  unfold hk; omega
theorem hk_ge (n : Nat) : n ≤ 2 * hk n := by
  have h : n - 1 < 2 ^ (Nat.log2 (n - 1) + 1) := Nat.lt_log2_self
  rw [Nat.pow_succ] at h
  unfold hk; omega
theorem pow_uniq {a b n : Nat} (ha : 2 ^ a < n) (ha2 : n ≤ 2 * 2 ^ a) (hb : 2 ^ b < n) (hb2 : n ≤ 2 * 2 ^ b) : a = b := by
  rcases Nat.lt_trichotomy a b with h | h | h
  · have := Nat.pow_le_pow_right (n := 2) (by decide) (show a + 1 ≤ b by omega)
    rw [Nat.pow_succ] at this
    omega
  · exact h
  · have := Nat.pow_le_pow_right (n := 2) (by decide) (show b + 1 ≤ a by omega)
    rw [Nat.pow_succ] at this
    omega
theorem hk_of {n k : Nat} (hp : ∃ j, k = 2 ^ j) (h1 : k = 1 ∨ k < n) (h2 : n ≤ 2 * k) : hk n = k := by
  obtain ⟨j, rfl⟩ := hp
  rcases Nat.lt_or_ge n 2 with hn | hn
  · have e : n - 1 = 0 := by omega
    have hp := Nat.pow_pos (n := j) (show 0 < 2 by decide)
    unfold hk
    rw [e]
    have : 2 ^ j = 1 := by omega
    rw [this]; rfl
  · have hl := hk_lt hn
    have hg := hk_ge n
    unfold hk at hl hg ⊢
    rw [pow_uniq hl hg (by rcases h1 with h | h <;> omega) h2]
theorem hk_pow (n : Nat) : ∃ j, hk n = 2 ^ j := ⟨_, rfl⟩
theorem hk_even {n : Nat} (h : 3 ≤ n) : hk n % 2 = 0 := by
  obtain ⟨j, hj⟩ := hk_pow n
  have hg := hk_ge n
  cases j with
  | zero => rw [hj] at hg; simp at hg; omega
  | succ j => rw [hj, Nat.pow_succ]; omega
theorem hk_half {n : Nat} (h : 3 ≤ n) : hk ((n + 1) / 2) = hk n / 2 := by
  obtain ⟨j, hj⟩ := hk_pow n
  have hg := hk_ge n
  have hl := hk_lt (show 2 ≤ n by omega)
  have he := hk_even h
  refine hk_of ?_ (.inr (by omega)) (by omega)
  cases j with
  | zero => rw [hj] at he; simp at he
  | succ j => exact ⟨j, by rw [hj, Nat.pow_succ]; omega⟩
theorem hk_two : hk 2 = 1 := rfl

set_option maxRecDepth 10000 in
set_option maxHeartbeats 1000000 in
theorem firstPart_any (n : Nat) (w : World) (hn : n ≤ 1000000) :
    Calls Tryz.prog 104 #[.int .i64 n] w fun e w' => e = .returned (.int .i64 (hk n : Nat)) ∧ w' = w := by
  have HN : Hid (n ≤ 1000000) := hn
  go_enter Tryz.func104, Tryz.ntmps104
  go_wp2
  go_loop [3] (fun kk => ∃ k : Nat, kk = .int .i64 k ∧ 0 < k ∧ k ≤ 1000000 ∧ Hid (∃ j, k = 2 ^ j) ∧ Hid (k = 1 ∨ k < n)) (fun kk => n - (intOf kk).toNat)
  case atStart => exact ⟨1, rfl, by decide, by decide, ⟨0, rfl⟩, .inl rfl⟩
  case round =>
    obtain ⟨k, rfl, h0, h1, HJ, HK⟩ := hrel
    by_cases hlt : 2 * k < n
    · have hlti : 2 * (k : Int) < (n : Int) := by omega
      go_wp2
      go_round
      case rel => exact ⟨k * 2, by go_num, by omega, by have := HN.out; omega, by obtain ⟨j, hj⟩ := HJ.out; exact ⟨j + 1, by rw [hj, Nat.pow_succ]⟩, .inr (by omega)⟩
      case measure => simp [intOf]; omega
    · have hlti : ¬ 2 * (k : Int) < (n : Int) := by omega
      have HE : Hid (hk n = k) := hk_of HJ.out HK.out (by omega)
      go_wp2
      go_ret
      exact ⟨by rw [HE.out]; rfl, rfl⟩

set_option maxRecDepth 10000 in
set_option maxHeartbeats 1000000 in
theorem l15Half_any (n : Nat) (w : World) (hn : n ≤ 1000000) :
    Calls Tryz.prog 70 #[.int .i64 n] w fun e w' => e = .returned (.int .i64 (hk n : Nat)) ∧ w' = w := by
  have HN : Hid (n ≤ 1000000) := hn
  go_enter Tryz.func70, Tryz.ntmps70
  go_wp2
  go_loop [3] (fun kk => ∃ k : Nat, kk = .int .i64 k ∧ 0 < k ∧ k ≤ 1000000 ∧ Hid (∃ j, k = 2 ^ j) ∧ Hid (k = 1 ∨ k < n)) (fun kk => n - (intOf kk).toNat)
  case atStart => exact ⟨1, rfl, by decide, by decide, ⟨0, rfl⟩, .inl rfl⟩
  case round =>
    obtain ⟨k, rfl, h0, h1, HJ, HK⟩ := hrel
    by_cases hlt : 2 * k < n
    · have hlti : 2 * (k : Int) < (n : Int) := by omega
      go_wp2
      go_round
      case rel => exact ⟨2 * k, by go_num, by omega, by have := HN.out; omega, by obtain ⟨j, hj⟩ := HJ.out; exact ⟨j + 1, by rw [hj, Nat.pow_succ]; omega⟩, .inr (by omega)⟩
      case measure => simp [intOf]; omega
    · have hlti : ¬ 2 * (k : Int) < (n : Int) := by omega
      have HE : Hid (hk n = k) := hk_of HJ.out HK.out (by omega)
      go_wp2
      go_ret
      exact ⟨by rw [HE.out]; rfl, rfl⟩

end Go.Proofs.YtmoekmonkpihhaaGreat

namespace Go.Proofs.YtmoekmonkpihhaaGreat
open Go.RowKit Go.Sort

/-- The root of a row. -/
def rootL (zs : List Int) : Int :=
  if zs.length = 0 then 0
  else if _h1 : zs.length ≤ 1 then zs.getD 0 0
  else pairN (rootL (zs.take (hk zs.length))) (rootL (zs.drop (hk zs.length)))
termination_by zs.length
decreasing_by
  · rw [List.length_take]; have := hk_lt (show 2 ≤ zs.length by omega); omega
  · rw [List.length_drop]; have := hk_pos zs.length; omega
theorem rootL_nil : rootL [] = 0 := by rw [rootL]; rfl
theorem rootL_one (x : Int) : rootL [x] = x := by rw [rootL]; simp
theorem rootL_more (zs : List Int) (h : 2 ≤ zs.length) : rootL zs = pairN (rootL (zs.take (hk zs.length))) (rootL (zs.drop (hk zs.length))) := by
  conv => lhs; rw [rootL]
  rw [if_neg (by omega), dif_neg (by omega)]
theorem rootL_bd (zs : List Int) (h : ∀ k, U64 (zs.getD k 0)) : U64 (rootL zs) := by
  rw [rootL]
  split
  · simp [U64]
  · split
    · exact h 0
    · exact pairN_bd _ _
theorem u64_drop {zs : List Int} (h : ∀ k, U64 (zs.getD k 0)) (j : Nat) : ∀ k, U64 ((zs.drop j).getD k 0) := by
  intro k
  have := h (j + k)
  simpa [List.getD_eq_getElem?_getD, List.getElem?_drop] using this
theorem RowU.drop {w : World} {b off n : Nat} {zs : List Int} (h : RowU w (some ⟨b, off, none⟩) n zs) (k : Nat) (hk : k ≤ n) : RowU w (some ⟨b, off + k, none⟩) (n - k) (zs.drop k) := by
  refine ⟨by rw [List.length_drop, h.len], fun j hj => ?_, u64_drop h.rng k⟩
  obtain ⟨b', off', ha, hb, hc⟩ := h.get (k + j) (by omega)
  simp at ha
  obtain ⟨rfl, rfl⟩ := ha
  exact ⟨b, off + k, rfl, hb, by rw [Nat.add_assoc, hc]; simp [List.getD_eq_getElem?_getD, List.getElem?_drop]⟩
/-- Neighbours paired, a last one without a neighbour as it is. -/
def pairUp : List Int → List Int
  | [] => []
  | [x] => [x]
  | x :: y :: r => pairN x y :: pairUp r
theorem pairUp_len : ∀ zs : List Int, (pairUp zs).length = (zs.length + 1) / 2
  | [] => rfl
  | [_] => by simp [pairUp]
  | x :: y :: r => by rw [pairUp, List.length_cons, pairUp_len r, List.length_cons, List.length_cons]; omega
theorem pairUp_get : ∀ (zs : List Int) (i : Nat), i < zs.length / 2 → (pairUp zs).getD i 0 = pairN (zs.getD (2 * i) 0) (zs.getD (2 * i + 1) 0)
  | [], i, h => by simp at h
  | [_], i, h => by simp at h
  | x :: y :: r, 0, _ => by simp [pairUp]
  | x :: y :: r, i + 1, h => by
    have := pairUp_get r i (by simp at h; omega)
    rw [pairUp, List.getD_cons_succ, this, show 2 * (i + 1) = 2 * i + 1 + 1 by omega]
    simp
theorem pairUp_last : ∀ (zs : List Int), zs.length % 2 = 1 → (pairUp zs).getD (zs.length / 2) 0 = zs.getD (zs.length - 1) 0
  | [], h => by simp at h
  | [_], h => by simp [pairUp]
  | x :: y :: r, h => by
    have := pairUp_last r (by simp at h; omega)
    rw [pairUp, List.length_cons, List.length_cons, show (r.length + 1 + 1) / 2 = r.length / 2 + 1 by omega, List.getD_cons_succ, this, show r.length + 1 + 1 - 1 = (r.length - 1) + 1 + 1 by simp at h; omega]
    simp
theorem pairUp_append : ∀ (a b : List Int), a.length % 2 = 0 → pairUp (a ++ b) = pairUp a ++ pairUp b
  | [], b, _ => rfl
  | [_], b, h => by simp at h
  | x :: y :: r, b, h => by
    have := pairUp_append r b (by simp at h; omega)
    show pairN x y :: pairUp (r ++ b) = pairN x y :: (pairUp r ++ pairUp b)
    rw [this]
theorem rootL_up : ∀ (m : Nat) (zs : List Int), zs.length ≤ m → rootL (pairUp zs) = rootL zs := by
  intro m
  induction m with
  | zero =>
    intro zs h
    rw [List.eq_nil_of_length_eq_zero (show zs.length = 0 by omega)]; rfl
  | succ m ih =>
    intro zs h
    match zs, h with
    | [], _ => rfl
    | [x], _ => rfl
    | [x, y], _ =>
      rw [show pairUp [x, y] = [pairN x y] from rfl, rootL_one, rootL_more [x, y] (by simp)]
      show _ = pairN (rootL [x]) (rootL [y])
      rw [rootL_one, rootL_one]
    | x :: y :: z :: r, h =>
      have h3 : 3 ≤ (x :: y :: z :: r).length := by simp
      generalize x :: y :: z :: r = zs at h h3
      have hl := hk_lt (show 2 ≤ zs.length by omega)
      have hp := hk_pos zs.length
      have he := hk_even h3
      have e : pairUp zs = pairUp (zs.take (hk zs.length)) ++ pairUp (zs.drop (hk zs.length)) := by
        rw [← pairUp_append _ _ (by rw [List.length_take]; omega), List.take_append_drop]
      have el : (pairUp (zs.take (hk zs.length))).length = hk zs.length / 2 := by rw [pairUp_len, List.length_take]; omega
      rw [rootL_more zs (by omega), rootL_more (pairUp zs) (by rw [pairUp_len]; omega), pairUp_len, hk_half h3]
      rw [e, List.take_left' el, List.drop_left' el]
      rw [ih (zs.take (hk zs.length)) (by rw [List.length_take]; omega), ih (zs.drop (hk zs.length)) (by rw [List.length_drop]; omega)]
/-- The row while it is paired up in place. -/
def mixU (zs : List Int) (k : Nat) : List Int := (pairUp zs).take k ++ zs.drop k
theorem mixU_zero (zs : List Int) : mixU zs 0 = zs := by simp [mixU]
theorem mixU_len (zs : List Int) (k : Nat) (h : k ≤ (zs.length + 1) / 2) : (mixU zs k).length = zs.length := by
  unfold mixU; rw [List.length_append, List.length_take, List.length_drop, pairUp_len]; omega
theorem mixU_get (zs : List Int) (k j : Nat) (h : k ≤ (zs.length + 1) / 2) (hj : k ≤ j) : (mixU zs k).getD j 0 = zs.getD j 0 := by
  unfold mixU
  have e : ((pairUp zs).take k).length = k := by rw [List.length_take, pairUp_len]; omega
  rw [List.getD_eq_getElem?_getD, List.getElem?_append_right (by omega), e, List.getElem?_drop, List.getD_eq_getElem?_getD, show k + (j - k) = j by omega]
theorem mixU_put (zs : List Int) (k : Nat) (h : k < (zs.length + 1) / 2) (h2 : k < zs.length) : (mixU zs k).set k ((pairUp zs).getD k 0) = mixU zs (k + 1) := by
  unfold mixU
  have hl : k < (pairUp zs).length := by rw [pairUp_len]; exact h
  have e : ((pairUp zs).take k).length = k := by rw [List.length_take]; omega
  rw [List.drop_eq_getElem_cons h2, set_append_mid _ _ _ _ _ e, List.take_succ_eq_append_getElem hl, List.append_assoc]
  have : (pairUp zs).getD k 0 = (pairUp zs)[k] := by simp [hl]
  rw [this]
  rfl
theorem mixU_all (zs : List Int) : (mixU zs ((zs.length + 1) / 2)).take ((zs.length + 1) / 2) = pairUp zs := by
  unfold mixU
  rw [← pairUp_len, List.take_of_length_le (Nat.le_refl _), List.take_left' rfl]
theorem getD_ne {α : Type} (l : List α) (d : α) (k : Nat) (h : ¬ k < l.length) : l.getD k d = d := by
  rw [List.getD_eq_getElem?_getD, List.getElem?_eq_none (by omega)]; rfl
theorem pairUp_bd (zs : List Int) (h : ∀ k, U64 (zs.getD k 0)) : ∀ k, U64 ((pairUp zs).getD k 0) := by
  intro k
  by_cases h1 : k < zs.length / 2
  · rw [pairUp_get zs k h1]; exact pairN_bd _ _
  · by_cases h2 : k < (zs.length + 1) / 2
    · have e : k = zs.length / 2 := by omega
      rw [e, pairUp_last zs (by omega)]
      exact h _
    · rw [getD_ne _ _ _ (by rw [pairUp_len]; exact h2)]; simp [U64]
theorem mixU_bd (zs : List Int) (h : ∀ k, U64 (zs.getD k 0)) (k : Nat) : ∀ j, U64 ((mixU zs k).getD j 0) := by
  intro j
  unfold mixU
  rw [List.getD_eq_getElem?_getD, List.getElem?_append]
  split
  · rw [← List.getD_eq_getElem?_getD]; exact u64_take (pairUp_bd zs h) k j
  · rw [← List.getD_eq_getElem?_getD]; exact u64_drop h k _
theorem OwnU.take {B : Nat} {w : World} {a : Option Addr} {n cap : Nat} {zs : List Int} (h : OwnU B w a n cap zs) (m : Nat) (hm : m ≤ n) (hn : 0 < n) : OwnU B w a m cap (zs.take m) := by
  have hl := h.len
  refine ⟨⟨by simp; omega, ?_⟩, u64_take h.rng m⟩
  rcases h.row.2 with ⟨_, h0⟩ | ⟨g, cap', cur, hv, hb, hg, h1, h2, h3, h4⟩
  · omega
  · simp only [Value.slice.injEq] at hv
    obtain ⟨rfl, _, rfl⟩ := hv
    refine .inr ⟨g, cap, cur, rfl, hb, hg, by omega, h2, h3, ?_⟩
    rw [List.map_take, ← h4, List.take_take]
    congr 1
    omega

end Go.Proofs.YtmoekmonkpihhaaGreat

namespace Go.Proofs.YtmoekmonkpihhaaGreat
open Go.RowKit Go.Sort

end Go.Proofs.YtmoekmonkpihhaaGreat

namespace Go.Proofs.YtmoekmonkpihhaaGreat
open Go.RowKit Go.Sort

theorem OwnU.block {B : Nat} {w : World} {g n : Nat} {zs : List Int} (h : OwnU B w (some ⟨g, 0, none⟩) n n zs) : w.heap[g]? = some (.cells (zs.map (Value.int .u64)).toArray 22 (0, 0)) := by
  rcases h.row.2 with ⟨h0, _⟩ | ⟨g', cap', cur, hv, hb, hg, h1, h2, h3, h4⟩
  · simp at h0
  · simp only [Value.slice.injEq, Option.some.injEq, Addr.mk.injEq, and_true, true_and] at hv
    obtain ⟨rfl, rfl⟩ := hv
    rw [List.take_of_length_le (by simp; omega)] at h4
    rw [hg, ← h4]
theorem OwnU.of_block {B : Nat} {w : World} {g n : Nat} {zs : List Int} (h : w.heap[g]? = some (.cells (zs.map (Value.int .u64)).toArray 22 (0, 0))) (hB : B ≤ g) (hl : zs.length = n) (hm : n ≤ maxLen) (hr : ∀ k, U64 (zs.getD k 0)) : OwnU B w (some ⟨g, 0, none⟩) n n zs :=
  ⟨⟨by simp [hl], .inr ⟨g, n, _, rfl, hB, h, Nat.le_refl _, hm, by simp [hl], by simp [List.take_of_length_le, hl]⟩⟩, hr⟩
theorem splice_all {α : Type} (L cs : List α) (h : L.length = cs.length) : splice L 0 cs = cs := by
  unfold splice
  rw [List.take_zero, List.nil_append, List.drop_eq_nil_of_le (by omega), List.append_nil]
theorem copyU_src {w : World} {a : Option Addr} {n : Nat} {zs : List Int} {X : List Value} (h : RowU w a n zs) (hX : X = zs.map (Value.int .u64)) (hp : 0 < n) : ∃ ad, a = some ad ∧ ∀ j v, X[j]? = some v → w.cell? (ad.add j) = some v := by
  cases a with
  | none => exact absurd (rowU_none h).1 (by omega)
  | some ad => exact ⟨ad, rfl, by rw [hX]; exact rowU_cells h⟩
theorem Tryz.sizeU : (Tryz.prog.info? 22).map (·.size) = some 1 := by kernel_rfl

end Go.Proofs.YtmoekmonkpihhaaGreat

namespace Go.Proofs.YtmoekmonkpihhaaGreat
open Go.RowKit Go.Sort

def lrR (zs : List Int) : Int × Bool := if zs.length ≤ 200 then (rootL zs, true) else (0, false)

def enW : List Int := [101, 110, 116, 114, 121]
theorem enW_byte : ∀ k, 0 ≤ enW.getD k 0 ∧ enW.getD k 0 ≤ 255 := bytes_of_all (by decide)
def entN (bs : List Int) : Int := hashL (partsL [enW, bs])
theorem ent_total (bs : List Int) (h : bs.length ≤ 1048576) : total [enW, bs] ≤ 2097152 := by unfold total; simp [enW]; omega

end Go.Proofs.YtmoekmonkpihhaaGreat

namespace Go.Proofs.YtmoekmonkpihhaaGreat
open Go.RowKit Go.Sort

/-- The root that a proof leads to. -/
def fromR (n i : Nat) (x : Int) (ps : List Int) : Int × Bool :=
  if _h : n ≤ 1 then (x, decide (ps.length = 0))
  else if ps.length = 0 then (0, false)
  else if i < hk n then (pairN (fromR (hk n) i x (ps.take (ps.length - 1))).1 (ps.getD (ps.length - 1) 0), (fromR (hk n) i x (ps.take (ps.length - 1))).2)
  else (pairN (ps.getD (ps.length - 1) 0) (fromR (n - hk n) (i - hk n) x (ps.take (ps.length - 1))).1, (fromR (n - hk n) (i - hk n) x (ps.take (ps.length - 1))).2)
termination_by n
decreasing_by all_goals (have := hk_pos n; have := hk_lt (show 2 ≤ n by omega); omega)
theorem fromR_one (n i : Nat) (x : Int) (ps : List Int) (h : n ≤ 1) : fromR n i x ps = (x, decide (ps.length = 0)) := by rw [fromR, dif_pos h]
theorem fromR_nil (n i : Nat) (x : Int) (ps : List Int) (h : 2 ≤ n) (hp : ps.length = 0) : fromR n i x ps = (0, false) := by rw [fromR, dif_neg (by omega), if_pos hp]
theorem fromR_lo (n i : Nat) (x : Int) (ps : List Int) (h : 2 ≤ n) (m : Nat) (hp : ps.length = m + 1) (hi : i < hk n) : fromR n i x ps = (pairN (fromR (hk n) i x (ps.take m)).1 (ps.getD m 0), (fromR (hk n) i x (ps.take m)).2) := by
  conv => lhs; rw [fromR]
  rw [dif_neg (by omega), if_neg (by omega), if_pos hi, hp, Nat.add_sub_cancel]
theorem fromR_hi (n i : Nat) (x : Int) (ps : List Int) (h : 2 ≤ n) (m : Nat) (hp : ps.length = m + 1) (hi : ¬ i < hk n) : fromR n i x ps = (pairN (ps.getD m 0) (fromR (n - hk n) (i - hk n) x (ps.take m)).1, (fromR (n - hk n) (i - hk n) x (ps.take m)).2) := by
  conv => lhs; rw [fromR]
  rw [dif_neg (by omega), if_neg (by omega), if_neg hi, hp, Nat.add_sub_cancel]
theorem fromR_bd (n i : Nat) (x : Int) (ps : List Int) (hx : U64 x) : U64 (fromR n i x ps).1 := by
  rw [fromR]
  split
  · exact hx
  · split
    · simp [U64]
    · split <;> exact pairN_bd _ _

set_option maxRecDepth 10000 in
set_option maxHeartbeats 1000000 in
theorem cutTop_more (a : Option Addr) (m c : Nat) (ps : List Int) (w : World) (h : RowU w a (m + 1) ps) (hc : m + 1 ≤ c) (hcm : c ≤ 9223372036854775807) :
    Calls Tryz.prog 103 #[.slice a (m + 1) c] w fun e w' => e = .returned (.tuple #[.slice a m c, .int .u64 (ps.getD m 0), .bool true]) ∧ Below w.heap.size w w' := by
  obtain ⟨b, off, rfl, hlb, hc0⟩ := h.get m (by omega)
  obtain ⟨p, hp⟩ : ∃ p, p = ps.getD m 0 := ⟨_, rfl⟩
  rw [← hp] at hc0 ⊢
  clear hp h
  have j1 : ((m + 1 : Nat) : Int) - 1 = (m : Int) := by omega
  have j2 : IntKind.i64.wrap (m : Int) = (m : Int) := by rw [IntKind.wrap_i64]; omega
  have j3 : ¬ (m : Int) < 0 := by omega
  have j4 : (m : Int) ≤ (c : Int) := by omega
  have j5 : (m : Int) < (m : Int) + 1 := by omega
  go_enter Tryz.func103, Tryz.ntmps103
  go_wp2
  go_quiet (fail)
  go_wp2
  go_ret3
  exact ⟨rfl, below_dnT (Below.refl _ _) nq⟩

set_option maxRecDepth 10000 in
set_option maxHeartbeats 1000000 in
theorem cutTop_none (a : Option Addr) (c : Nat) (w : World) :
    Calls Tryz.prog 103 #[.slice a 0 c] w fun e w' => e = .returned (.tuple #[.slice none 0 0, .int .u64 0, .bool false]) ∧ w' = w := by
  go_enter Tryz.func103, Tryz.ntmps103
  go_wp2
  go_ret3
  exact ⟨rfl, rfl⟩

end Go.Proofs.YtmoekmonkpihhaaGreat

namespace Go.Proofs.YtmoekmonkpihhaaGreat
open Go.RowKit Go.Sort

/-- The roots of the first m and of all n that a proof leads to; sp: as the specification works it out. -/
def bothR (sp : Bool) (old : Int) (m n : Nat) (fl : Bool) (ps : List Int) : Int × Int × Bool :=
  if _h : n ≤ m ∨ n ≤ 1 then
    if fl then (old, old, decide (ps.length = 0))
    else if sp then (if ps.length = 1 then (ps.getD 0 0, ps.getD 0 0, true) else (0, 0, false))
    else (if ps.length = 0 then (0, 0, false) else (ps.getD (ps.length - 1) 0, ps.getD (ps.length - 1) 0, decide (ps.length = 1)))
  else if ps.length = 0 then (0, 0, false)
  else if m ≤ hk n then
    ((bothR sp old m (hk n) fl (ps.take (ps.length - 1))).1, pairN (bothR sp old m (hk n) fl (ps.take (ps.length - 1))).2.1 (ps.getD (ps.length - 1) 0), (bothR sp old m (hk n) fl (ps.take (ps.length - 1))).2.2)
  else
    (pairN (ps.getD (ps.length - 1) 0) (bothR sp (if sp then old else 0) (m - hk n) (n - hk n) false (ps.take (ps.length - 1))).1, pairN (ps.getD (ps.length - 1) 0) (bothR sp (if sp then old else 0) (m - hk n) (n - hk n) false (ps.take (ps.length - 1))).2.1, (bothR sp (if sp then old else 0) (m - hk n) (n - hk n) false (ps.take (ps.length - 1))).2.2)
termination_by n
decreasing_by all_goals (have := hk_pos n; have := hk_lt (show 2 ≤ n by omega); omega)
theorem bothR_known (sp : Bool) (old : Int) (m n : Nat) (ps : List Int) (h : n ≤ m ∨ n ≤ 1) : bothR sp old m n true ps = (old, old, decide (ps.length = 0)) := by rw [bothR, dif_pos h]; rfl
theorem bothR_spec (old : Int) (m n : Nat) (ps : List Int) (h : n ≤ m ∨ n ≤ 1) : bothR true old m n false ps = if ps.length = 1 then (ps.getD 0 0, ps.getD 0 0, true) else (0, 0, false) := by rw [bothR, dif_pos h]; rfl
theorem bothR_impl (old : Int) (m n : Nat) (ps : List Int) (h : n ≤ m ∨ n ≤ 1) : bothR false old m n false ps = if ps.length = 0 then (0, 0, false) else (ps.getD (ps.length - 1) 0, ps.getD (ps.length - 1) 0, decide (ps.length = 1)) := by rw [bothR, dif_pos h]; rfl
theorem bothR_nil (sp : Bool) (old : Int) (m n : Nat) (fl : Bool) (ps : List Int) (h : 2 ≤ n) (hm : m < n) (hp : ps.length = 0) : bothR sp old m n fl ps = (0, 0, false) := by rw [bothR, dif_neg (by omega), if_pos hp]
theorem bothR_lo (sp : Bool) (old : Int) (m n : Nat) (fl : Bool) (ps : List Int) (h : 2 ≤ n) (hm : m < n) (q : Nat) (hp : ps.length = q + 1) (hi : m ≤ hk n) : bothR sp old m n fl ps = ((bothR sp old m (hk n) fl (ps.take q)).1, pairN (bothR sp old m (hk n) fl (ps.take q)).2.1 (ps.getD q 0), (bothR sp old m (hk n) fl (ps.take q)).2.2) := by
  conv => lhs; rw [bothR]
  rw [dif_neg (by omega), if_neg (by omega), if_pos hi, hp, Nat.add_sub_cancel]
theorem bothR_hi (sp : Bool) (old : Int) (m n : Nat) (fl : Bool) (ps : List Int) (h : 2 ≤ n) (hm : m < n) (q : Nat) (hp : ps.length = q + 1) (hi : ¬ m ≤ hk n) : bothR sp old m n fl ps = (pairN (ps.getD q 0) (bothR sp (if sp then old else 0) (m - hk n) (n - hk n) false (ps.take q)).1, pairN (ps.getD q 0) (bothR sp (if sp then old else 0) (m - hk n) (n - hk n) false (ps.take q)).2.1, (bothR sp (if sp then old else 0) (m - hk n) (n - hk n) false (ps.take q)).2.2) := by
  conv => lhs; rw [bothR]
  rw [dif_neg (by omega), if_neg (by omega), if_neg hi, hp, Nat.add_sub_cancel]
theorem bothR_bd : ∀ (N : Nat) (sp : Bool) (old : Int) (m n : Nat) (fl : Bool) (ps : List Int), n ≤ N → U64 old → (∀ k, U64 (ps.getD k 0)) → U64 (bothR sp old m n fl ps).1 ∧ U64 (bothR sp old m n fl ps).2.1 := by
  have z : U64 0 := by simp [U64]
  intro N
  induction N with
  | zero =>
    intro sp old m n fl ps hN ho hp
    cases fl with
    | true => rw [bothR_known sp old m n ps (by omega)]; exact ⟨ho, ho⟩
    | false =>
      cases sp with
      | true => rw [bothR_spec old m n ps (by omega)]; split; exact ⟨hp _, hp _⟩; exact ⟨z, z⟩
      | false => rw [bothR_impl old m n ps (by omega)]; split; exact ⟨z, z⟩; exact ⟨hp _, hp _⟩
  | succ N ih =>
    intro sp old m n fl ps hN ho hp
    by_cases h1 : n ≤ m ∨ n ≤ 1
    · cases fl with
      | true => rw [bothR_known sp old m n ps h1]; exact ⟨ho, ho⟩
      | false =>
        cases sp with
        | true => rw [bothR_spec old m n ps h1]; split; exact ⟨hp _, hp _⟩; exact ⟨z, z⟩
        | false => rw [bothR_impl old m n ps h1]; split; exact ⟨z, z⟩; exact ⟨hp _, hp _⟩
    · by_cases h2 : ps.length = 0
      · rw [bothR_nil sp old m n fl ps (by omega) (by omega) h2]; exact ⟨z, z⟩
      · by_cases h3 : m ≤ hk n
        · rw [bothR_lo sp old m n fl ps (by omega) (by omega) (ps.length - 1) (by omega) h3]
          exact ⟨(ih sp old m (hk n) fl _ (by have := hk_lt (show 2 ≤ n by omega); omega) ho (u64_take hp _)).1, pairN_bd _ _⟩
        · rw [bothR_hi sp old m n fl ps (by omega) (by omega) (ps.length - 1) (by omega) h3]
          exact ⟨pairN_bd _ _, pairN_bd _ _⟩
/-- Both sides work out the same, where the proof has as many digests as it must. -/
theorem both_same : ∀ (N : Nat) (o1 o2 : Int) (m n : Nat) (fl : Bool) (ps : List Int), n ≤ N → (fl = true → o1 = o2) → (bothR true o1 m n fl ps).2.2 = (bothR false o2 m n fl ps).2.2 ∧ ((bothR true o1 m n fl ps).2.2 = true → bothR true o1 m n fl ps = bothR false o2 m n fl ps) := by
  have base : ∀ (o1 o2 : Int) (m n : Nat) (fl : Bool) (ps : List Int), (n ≤ m ∨ n ≤ 1) → (fl = true → o1 = o2) → (bothR true o1 m n fl ps).2.2 = (bothR false o2 m n fl ps).2.2 ∧ ((bothR true o1 m n fl ps).2.2 = true → bothR true o1 m n fl ps = bothR false o2 m n fl ps) := by
    intro o1 o2 m n fl ps h1 ho
    cases fl with
    | true => rw [bothR_known true o1 m n ps h1, bothR_known false o2 m n ps h1, ho rfl]; exact ⟨rfl, fun _ => rfl⟩
    | false =>
      rw [bothR_spec o1 m n ps h1, bothR_impl o2 m n ps h1]
      by_cases h3 : ps.length = 1
      · rw [if_pos h3, if_neg (by omega), h3]; exact ⟨rfl, fun _ => rfl⟩
      · by_cases h4 : ps.length = 0
        · rw [if_neg h3, if_pos h4]; exact ⟨rfl, fun _ => rfl⟩
        · rw [if_neg h3, if_neg h4]; simp [h3]
  intro N
  induction N with
  | zero => intro o1 o2 m n fl ps hN ho; exact base o1 o2 m n fl ps (by omega) ho
  | succ N ih =>
    intro o1 o2 m n fl ps hN ho
    by_cases h1 : n ≤ m ∨ n ≤ 1
    · exact base o1 o2 m n fl ps h1 ho
    · have hl := hk_lt (show 2 ≤ n by omega)
      have hp := hk_pos n
      by_cases h2 : ps.length = 0
      · rw [bothR_nil true o1 m n fl ps (by omega) (by omega) h2, bothR_nil false o2 m n fl ps (by omega) (by omega) h2]; exact ⟨rfl, fun _ => rfl⟩
      · by_cases h3 : m ≤ hk n
        · rw [bothR_lo true o1 m n fl ps (by omega) (by omega) (ps.length - 1) (by omega) h3, bothR_lo false o2 m n fl ps (by omega) (by omega) (ps.length - 1) (by omega) h3]
          obtain ⟨e1, e2⟩ := ih o1 o2 m (hk n) fl (ps.take (ps.length - 1)) (by omega) ho
          exact ⟨e1, fun h => by rw [e2 h]⟩
        · rw [bothR_hi true o1 m n fl ps (by omega) (by omega) (ps.length - 1) (by omega) h3, bothR_hi false o2 m n fl ps (by omega) (by omega) (ps.length - 1) (by omega) h3]
          obtain ⟨e1, e2⟩ := ih (if true then o1 else 0) (if false then o2 else 0) (m - hk n) (n - hk n) false (ps.take (ps.length - 1)) (by omega) (by simp)
          exact ⟨e1, fun h => by rw [e2 h]⟩

end Go.Proofs.YtmoekmonkpihhaaGreat

namespace Go.Proofs.YtmoekmonkpihhaaGreat
open Go.RowKit Go.Sort

theorem results_br {fn : Func} {t u : Tmp} (h : fn.results = #[.cell t 129, .tmp u]) (tmps : Array Value) (g : Nat) (ht : tmps.getD t undef = .pointer (some ⟨g, 0, none⟩)) (v : Value) (hv : tmps.getD u undef = v) (w : World) (c0 c1 : Value)
    (hb : w.heap[g]? = some (.cells #[c0, c1] 129 (0, 0))) : (results fn tmps).run Tryz.prog w = .ok (.tuple #[.agg #[c0, c1], v]) w := by
  have d0 : w.cell? ⟨g, 0, none⟩ = some c0 := (cell_of_row _ g 0 _ 129 (0, 0) hb).trans rfl
  have d1 : w.cell? ⟨g, 1, none⟩ = some c1 := (cell_of_row _ g 1 _ 129 (0, 0) hb).trans rfl
  clear hb
  have ht' : tmps[t]?.getD undef = .pointer (some ⟨g, 0, none⟩) := by rw [← ht]; simp
  have hv' : tmps[u]?.getD undef = v := by rw [← hv]; simp
  simp [results, h, go_sem, ht', hv', d0, d1]
theorem heap_set2 {w : World} {g t : Nat} {c0 c1 : Value} (h : w.heap[g]? = some (.cells #[c0, c1] t (0, 0))) (v0 v1 : Value) : ((w.setCell ⟨g, 0, none⟩ v0).setCell ⟨g, 1, none⟩ v1).heap[g]? = some (.cells #[v0, v1] t (0, 0)) :=
  heap_setCell_same _ _ 1 _ t _ (heap_setCell_same _ _ 0 _ t _ h)
theorem two_blocksQ (w : World) (o0 o1 : Obj) : ((w.alloc o0).alloc o1).heap[w.heap.size]? = some o0 ∧ ((w.alloc o0).alloc o1).heap[w.heap.size + 1]? = some o1 := by
  have s1 : (w.alloc o0).heap.size = w.heap.size + 1 := by simp
  refine ⟨(heap_alloc_old (w.alloc o0) o1 (by simp)).trans (heap_alloc_new w _), ?_⟩
  rw [← s1]; exact heap_alloc_new _ _

set_option maxRecDepth 10000 in
set_option maxHeartbeats 4000000 in
theorem extendedRoots_any : ∀ (N : Nat) (old : Int) (m n : Nat) (fl : Bool) (a : Option Addr) (l c : Nat) (ps : List Int) (w : World), n ≤ N → 0 < m → m ≤ n → n ≤ 1000 → U64 old → RowU w a l ps → l ≤ c → c ≤ 9223372036854775807 →
    Calls Tryz.prog 89 #[.agg #[.int .i64 m, .int .u64 old, .bool fl], .int .i64 n, .slice a l c] w fun e w' => e = .returned (.tuple #[.agg #[.int .u64 (bothR false old m n fl ps).1, .int .u64 (bothR false old m n fl ps).2.1], .bool (bothR false old m n fl ps).2.2]) ∧ Below w.heap.size w w' := by
  intro N
  induction N with
  | zero => intro old m n fl a l c ps w hN h0; omega
  | succ N ih =>
    intro old m n fl a l c ps w hN h0 hin hn ho h hc hcm
    obtain ⟨w1, hw1⟩ : ∃ w1, w1 = (w.alloc (.cells #[.int .i64 m, .int .u64 old, .bool fl] 133)).alloc (.cells #[.int .u64 0, .int .u64 0] 129) := ⟨_, rfl⟩
    have hbb : Below w.heap.size w w1 := by rw [hw1]; exact ((Below.refl _ _).alloc (Nat.le_refl _) _).alloc (by simp) _
    have hsz : w1.heap.size = w.heap.size + 2 := by rw [hw1]; simp
    have HB : Hid (∀ W, Below w1.heap.size w1 W → W.heap[w.heap.size]? = some (.cells #[.int .i64 m, .int .u64 old, .bool fl] 133) ∧ W.heap[w.heap.size + 1]? = some (.cells #[.int .u64 0, .int .u64 0] 129)) := fun W hW => by
      have hh := two_blocksQ w (.cells #[.int .i64 m, .int .u64 old, .bool fl] 133) (.cells #[.int .u64 0, .int .u64 0] 129)
      rw [← hw1] at hh
      exact ⟨(hW.block _ (by omega)).trans hh.1, (hW.block _ (by omega)).trans hh.2⟩
    have HW : Hid (_ = _) := hw1
    clear hw1
    have H0 : Hid (∀ W, Below w.heap.size w W → RowU W a l ps) := fun W hW => h.kept hW
    have HL : Hid (ps.length = l) := h.len
    have HRG : Hid (∀ k, U64 (ps.getD k 0)) := h.rng
    clear h
    have hr1 := Below.refl w1.heap.size w1
    have s0 : w1.cell? ⟨w.heap.size, 0, none⟩ = some (.int .i64 m) := (cell_of_row _ _ 0 _ 133 (0, 0) (HB.out _ hr1).1).trans rfl
    have s1 : w1.cell? ⟨w.heap.size, 1, none⟩ = some (.int .u64 old) := (cell_of_row _ _ 1 _ 133 (0, 0) (HB.out _ hr1).1).trans rfl
    have s2 : w1.cell? ⟨w.heap.size, 2, none⟩ = some (.bool fl) := (cell_of_row _ _ 2 _ 133 (0, 0) (HB.out _ hr1).1).trans rfl
    by_cases h1 : m = n
    · subst h1
      cases fl with
      | true =>
        have HE : Hid (bothR false old m m true ps = (old, old, decide (l = 0))) := by show _ = _; rw [bothR_known false old m m ps (.inl (Nat.le_refl _)), HL.out]
        have f0 : w1.frozen? ⟨w.heap.size + 1, 0, none⟩ = false := frozen_of_row w1 _ 0 _ 129 (HB.out _ hr1).2
        have f1 : w1.frozen? ⟨w.heap.size + 1, 1, none⟩ = false := frozen_of_row w1 _ 1 _ 129 (HB.out _ hr1).2
        have r0 : w1.cell? ⟨w.heap.size + 1, 0, none⟩ = some (.int .u64 0) := (cell_of_row _ _ 0 _ 129 (0, 0) (HB.out _ hr1).2).trans rfl
        have r1 : w1.cell? ⟨w.heap.size + 1, 1, none⟩ = some (.int .u64 0) := (cell_of_row _ _ 1 _ 129 (0, 0) (HB.out _ hr1).2).trans rfl
        by_cases hl : l = 0
        · subst hl
          go_enter Tryz.func89, Tryz.ntmps89
          go_upto_region 1 with fail
          rw [← HW.out]
          clear HW
          go_wp2
          try simp only [Exit.inBlock, Exit.then]
          refine bodyPost_ret (results_br rfl _ (w.heap.size + 1) rfl _ rfl _ _ _ (heap_set2 (HB.out _ hr1).2 _ _)) rfl ⟨by rw [HE.out]; rfl, ((keepT hbb hr1).setCell (by simp) _).setCell (by simp) _⟩
        · have z0 : ((l : Int) == 0) = false := by simp; omega
          have z1 : decide (l = 0) = false := by simp; omega
          go_enter Tryz.func89, Tryz.ntmps89
          go_upto_region 1 with fail
          rw [← HW.out]
          clear HW
          go_wp2
          try simp only [Exit.inBlock, Exit.then]
          refine bodyPost_ret (results_br rfl _ (w.heap.size + 1) rfl _ rfl _ _ _ (heap_set2 (HB.out _ hr1).2 _ _)) rfl ⟨by rw [HE.out, z1]; rfl, ((keepT hbb hr1).setCell (by simp) _).setCell (by simp) _⟩
      | false =>
        have HE : Hid (bothR false old m m false ps = if l = 0 then (0, 0, false) else (ps.getD (l - 1) 0, ps.getD (l - 1) 0, decide (l = 1))) := by show _ = _; rw [bothR_impl old m m ps (.inl (Nat.le_refl _)), HL.out]
        by_cases hl : l = 0
        · subst hl
          have f0 : w1.frozen? ⟨w.heap.size + 1, 0, none⟩ = false := frozen_of_row w1 _ 0 _ 129 (HB.out _ hr1).2
          have f1 : w1.frozen? ⟨w.heap.size + 1, 1, none⟩ = false := frozen_of_row w1 _ 1 _ 129 (HB.out _ hr1).2
          have r0 : w1.cell? ⟨w.heap.size + 1, 0, none⟩ = some (.int .u64 0) := (cell_of_row _ _ 0 _ 129 (0, 0) (HB.out _ hr1).2).trans rfl
          have r1 : w1.cell? ⟨w.heap.size + 1, 1, none⟩ = some (.int .u64 0) := (cell_of_row _ _ 1 _ 129 (0, 0) (HB.out _ hr1).2).trans rfl
          go_enter Tryz.func89, Tryz.ntmps89
          go_upto_region 1 with fail
          rw [← HW.out]
          clear HW
          go_wp2_with fail
          refine (cutTop_none a c _).mono ?_
          rintro e w2 ⟨rfl, hw⟩
          have hw2 := hw.symm
          subst hw2
          go_wp2
          try simp only [Exit.inBlock, Exit.then]
          refine bodyPost_ret (results_br rfl _ (w.heap.size + 1) rfl _ rfl _ _ _ (heap_set2 (HB.out _ hr1).2 _ _)) rfl ⟨by rw [HE.out]; rfl, ((keepT hbb hr1).setCell (by simp) _).setCell (by simp) _⟩
        · obtain ⟨q, rfl⟩ : ∃ q, l = q + 1 := ⟨l - 1, by omega⟩
          have HE2 : Hid (bothR false old m m false ps = (ps.getD q 0, ps.getD q 0, decide (q = 0))) := by show _ = _; rw [HE.out, if_neg hl, Nat.add_sub_cancel]; simp
          by_cases hq : q = 0
          · subst hq
            go_enter Tryz.func89, Tryz.ntmps89
            go_upto_region 1 with fail
            rw [← HW.out]
            clear HW
            go_wp2_with fail
            refine (cutTop_more a 0 c ps _ (H0.out _ hbb) hc hcm).mono ?_
            rintro e w2 ⟨rfl, hb2⟩
            have s0 : w2.cell? ⟨w.heap.size, 0, none⟩ = some (.int .i64 m) := (cell_of_row _ _ 0 _ 133 (0, 0) (HB.out _ hb2).1).trans rfl
            have s1 : w2.cell? ⟨w.heap.size, 1, none⟩ = some (.int .u64 old) := (cell_of_row _ _ 1 _ 133 (0, 0) (HB.out _ hb2).1).trans rfl
            have s2 : w2.cell? ⟨w.heap.size, 2, none⟩ = some (.bool false) := (cell_of_row _ _ 2 _ 133 (0, 0) (HB.out _ hb2).1).trans rfl
            have f0 : w2.frozen? ⟨w.heap.size + 1, 0, none⟩ = false := frozen_of_row w2 _ 0 _ 129 (HB.out _ hb2).2
            have f1 : w2.frozen? ⟨w.heap.size + 1, 1, none⟩ = false := frozen_of_row w2 _ 1 _ 129 (HB.out _ hb2).2
            have r0 : w2.cell? ⟨w.heap.size + 1, 0, none⟩ = some (.int .u64 0) := (cell_of_row _ _ 0 _ 129 (0, 0) (HB.out _ hb2).2).trans rfl
            have r1 : w2.cell? ⟨w.heap.size + 1, 1, none⟩ = some (.int .u64 0) := (cell_of_row _ _ 1 _ 129 (0, 0) (HB.out _ hb2).2).trans rfl
            go_wp2
            try simp only [Exit.inBlock, Exit.then]
            refine bodyPost_ret (results_br rfl _ (w.heap.size + 1) rfl _ rfl _ _ _ (heap_set2 (HB.out _ hb2).2 _ _)) rfl ⟨by rw [HE2.out]; rfl, ((keepT hbb hb2).setCell (by simp) _).setCell (by simp) _⟩
          · have z0 : ((q : Int) == 0) = false := by simp; omega
            have z1 : decide (q = 0) = false := by simp; omega
            go_enter Tryz.func89, Tryz.ntmps89
            go_upto_region 1 with fail
            rw [← HW.out]
            clear HW
            go_wp2_with fail
            refine (cutTop_more a q c ps _ (H0.out _ hbb) hc hcm).mono ?_
            rintro e w2 ⟨rfl, hb2⟩
            have s0 : w2.cell? ⟨w.heap.size, 0, none⟩ = some (.int .i64 m) := (cell_of_row _ _ 0 _ 133 (0, 0) (HB.out _ hb2).1).trans rfl
            have s1 : w2.cell? ⟨w.heap.size, 1, none⟩ = some (.int .u64 old) := (cell_of_row _ _ 1 _ 133 (0, 0) (HB.out _ hb2).1).trans rfl
            have s2 : w2.cell? ⟨w.heap.size, 2, none⟩ = some (.bool false) := (cell_of_row _ _ 2 _ 133 (0, 0) (HB.out _ hb2).1).trans rfl
            have f0 : w2.frozen? ⟨w.heap.size + 1, 0, none⟩ = false := frozen_of_row w2 _ 0 _ 129 (HB.out _ hb2).2
            have f1 : w2.frozen? ⟨w.heap.size + 1, 1, none⟩ = false := frozen_of_row w2 _ 1 _ 129 (HB.out _ hb2).2
            have r0 : w2.cell? ⟨w.heap.size + 1, 0, none⟩ = some (.int .u64 0) := (cell_of_row _ _ 0 _ 129 (0, 0) (HB.out _ hb2).2).trans rfl
            have r1 : w2.cell? ⟨w.heap.size + 1, 1, none⟩ = some (.int .u64 0) := (cell_of_row _ _ 1 _ 129 (0, 0) (HB.out _ hb2).2).trans rfl
            go_wp2
            try simp only [Exit.inBlock, Exit.then]
            refine bodyPost_ret (results_br rfl _ (w.heap.size + 1) rfl _ rfl _ _ _ (heap_set2 (HB.out _ hb2).2 _ _)) rfl ⟨by rw [HE2.out, z1]; rfl, ((keepT hbb hb2).setCell (by simp) _).setCell (by simp) _⟩
    · have z1 : ((m : Int) == (n : Int)) = false := by simp; omega
      have z3 : ¬ (m : Int) = (n : Int) := by omega
      by_cases hl : l = 0
      · subst hl
        have HE : Hid (bothR false old m n fl ps = (0, 0, false)) := bothR_nil false old m n fl ps (by omega) (by omega) HL.out
        have f0 : w1.frozen? ⟨w.heap.size + 1, 0, none⟩ = false := frozen_of_row w1 _ 0 _ 129 (HB.out _ hr1).2
        have f1 : w1.frozen? ⟨w.heap.size + 1, 1, none⟩ = false := frozen_of_row w1 _ 1 _ 129 (HB.out _ hr1).2
        have r0 : w1.cell? ⟨w.heap.size + 1, 0, none⟩ = some (.int .u64 0) := (cell_of_row _ _ 0 _ 129 (0, 0) (HB.out _ hr1).2).trans rfl
        have r1 : w1.cell? ⟨w.heap.size + 1, 1, none⟩ = some (.int .u64 0) := (cell_of_row _ _ 1 _ 129 (0, 0) (HB.out _ hr1).2).trans rfl
        go_enter Tryz.func89, Tryz.ntmps89
        go_upto_region 1 with fail
        rw [← HW.out]
        clear HW
        go_wp2_with fail
        refine (cutTop_none a c _).mono ?_
        rintro e w2 ⟨rfl, hw⟩
        have hw2 := hw.symm
        subst hw2
        go_wp2
        try simp only [Exit.inBlock, Exit.then]
        refine bodyPost_ret (results_br rfl _ (w.heap.size + 1) rfl _ rfl _ _ _ (heap_set2 (HB.out _ hr1).2 _ _)) rfl ⟨by rw [HE.out]; rfl, ((keepT hbb hr1).setCell (by simp) _).setCell (by simp) _⟩
      · obtain ⟨q, rfl⟩ : ∃ q, l = q + 1 := ⟨l - 1, by omega⟩
        obtain ⟨p, hp⟩ : ∃ p, p = ps.getD q 0 := ⟨_, rfl⟩
        have HP : Hid (p = ps.getD q 0) := hp
        have hpb := HRG.out q
        rw [← hp] at hpb
        clear hp
        have hkl := hk_lt (show 2 ≤ n by omega)
        have hkp := hk_pos n
        obtain ⟨k, hkk⟩ : ∃ k, k = hk n := ⟨_, rfl⟩
        have HKK : Hid (k = hk n) := hkk
        rw [← hkk] at hkl hkp
        have HRW : Hid (∀ W, Below w.heap.size w W → RowU W a q (ps.take q)) := fun W hW => (H0.out W hW).take q (by omega)
        by_cases hik : m ≤ k
        · have k1 : (m : Int) ≤ (k : Int) := by omega
          have he := bothR_lo false old m n fl ps (by omega) (by omega) q HL.out (by rw [← hkk]; exact hik)
          rw [← hkk, ← HP.out] at he
          obtain ⟨v, hv⟩ : ∃ v, v = bothR false old m k fl (ps.take q) := ⟨_, rfl⟩
          have hvb := bothR_bd _ false old m k fl (ps.take q) (Nat.le_refl _) ho (u64_take HRG.out q)
          have ih2 := fun W (hW : Below w.heap.size w W) => ih old m k fl a q c (ps.take q) W (by omega) h0 hik (by omega) ho (HRW.out W hW) (by omega) hcm
          rw [← hv] at ih2 hvb he
          obtain ⟨v0, v1, ok⟩ := v
          have HE : Hid (bothR false old m n fl ps = (v0, pairN v1 p, ok)) := he
          have IH : Hid (_) := ih2
          have hv1 := hvb.2
          clear hkk he hv ih2 ih HRW hvb
          go_enter Tryz.func89, Tryz.ntmps89
          go_upto_region 1 with fail
          rw [← HW.out]
          clear HW
          go_wp2_with fail
          refine (cutTop_more a q c ps _ (H0.out _ hbb) hc hcm).mono ?_
          rintro e w2 ⟨rfl, hb2⟩
          rw [← HP.out]
          clear s0 s1 s2
          have s0 : w2.cell? ⟨w.heap.size, 0, none⟩ = some (.int .i64 m) := (cell_of_row _ _ 0 _ 133 (0, 0) (HB.out _ hb2).1).trans rfl
          have s1 : w2.cell? ⟨w.heap.size, 1, none⟩ = some (.int .u64 old) := (cell_of_row _ _ 1 _ 133 (0, 0) (HB.out _ hb2).1).trans rfl
          have s2 : w2.cell? ⟨w.heap.size, 2, none⟩ = some (.bool fl) := (cell_of_row _ _ 2 _ 133 (0, 0) (HB.out _ hb2).1).trans rfl
          go_wp2_with fail
          refine (firstPart_any _ _ (by omega)).mono ?_
          rintro e w3 ⟨rfl, hw⟩
          have hw3 := hw.symm
          subst hw3
          rw [← HKK.out]
          go_wp2_with fail
          refine (IH.out _ (keepT hbb hb2)).mono ?_
          rintro e w3 ⟨rfl, hb3⟩
          obtain ⟨w4, hw4⟩ : ∃ w4, w4 = w3.alloc (.cells #[.int .u64 v0, .int .u64 v1] 129) := ⟨_, rfl⟩
          have hb4 : Below w3.heap.size w3 w4 := by rw [hw4]; exact (Below.refl _ _).alloc (Nat.le_refl _) _
          have HB4 : Hid (∀ W, Below w4.heap.size w4 W → W.heap[w3.heap.size]? = some (.cells #[.int .u64 v0, .int .u64 v1] 129)) := fun W hW => (hW.block _ (by rw [hw4]; simp)).trans (by rw [hw4]; exact heap_alloc_new _ _)
          have hbx : Below w1.heap.size w1 w4 := keepT (keepT hb2 hb3) hb4
          have hlw : w3.heap.size < w4.heap.size := by rw [hw4]; simp
          have hlw2 : w.heap.size + 1 < w4.heap.size := by have := hbx.size; omega
          have HW4 : Hid (_ = _) := hw4
          clear s0 s1 s2 hw4
          go_upto_region 11 with fail
          rw [← HW4.out]
          clear HW4
          have x0 : w4.cell? ⟨w3.heap.size, 0, none⟩ = some (.int .u64 v0) := (cell_of_row _ _ 0 _ 129 (0, 0) (HB4.out _ (Below.refl _ _))).trans rfl
          have x1 : w4.cell? ⟨w3.heap.size, 1, none⟩ = some (.int .u64 v1) := (cell_of_row _ _ 1 _ 129 (0, 0) (HB4.out _ (Below.refl _ _))).trans rfl
          have hdr : Below w4.heap.size w4 w4.drew := (Below.refl _ _).drew
          go_region_with ((go_at_call 105; refine (pairOf_any v1 p _ hv1 hpb).mono ?_; rintro e w5 ⟨rfl, hb5⟩; have hb45 := keepT hdr hb5; have y0 : w5.cell? ⟨w3.heap.size, 0, none⟩ = some (.int .u64 v0) := (cell_of_row _ _ 0 _ 129 (0, 0) (HB4.out _ hb45)).trans rfl; have hb15 := keepT hbx hb45; have f0 : w5.frozen? ⟨w.heap.size + 1, 0, none⟩ = false := frozen_of_row w5 _ 0 _ 129 (HB.out _ hb15).2; have f1 : w5.frozen? ⟨w.heap.size + 1, 1, none⟩ = false := frozen_of_row w5 _ 1 _ 129 (HB.out _ hb15).2; have r0 : w5.cell? ⟨w.heap.size + 1, 0, none⟩ = some (.int .u64 0) := (cell_of_row _ _ 0 _ 129 (0, 0) (HB.out _ hb15).2).trans rfl; have r1 : w5.cell? ⟨w.heap.size + 1, 1, none⟩ = some (.int .u64 0) := (cell_of_row _ _ 1 _ 129 (0, 0) (HB.out _ hb15).2).trans rfl))
          all_goals
            go_wp2
            try simp only [Exit.inBlock, Exit.then]
            refine bodyPost_ret (results_br rfl _ (w.heap.size + 1) rfl _ rfl _ _ _ (heap_set2 (HB.out _ hb15).2 _ _)) rfl ⟨by rw [HE.out]; rfl, ((keepT hbb hb15).setCell (by simp) _).setCell (by simp) _⟩
        · obtain ⟨q2, rfl⟩ : ∃ q2, m = k + q2 := ⟨m - k, by omega⟩
          obtain ⟨d, rfl⟩ : ∃ d, n = k + d := ⟨n - k, by omega⟩
          have k1 : ¬ (k : Int) + (q2 : Int) ≤ (k : Int) := by omega
          have k2 : (k : Int) + (q2 : Int) - (k : Int) = (q2 : Int) := by omega
          have k3 : (k : Int) + (d : Int) - (k : Int) = (d : Int) := by omega
          have k4 : IntKind.i64.wrap (q2 : Int) = (q2 : Int) := by rw [IntKind.wrap_i64]; omega
          have k5 : IntKind.i64.wrap (d : Int) = (d : Int) := by rw [IntKind.wrap_i64]; omega
          have k6 : ((k + q2 : Nat) : Int) = (k : Int) + (q2 : Int) := by omega
          have he := bothR_hi false old (k + q2) (k + d) fl ps (by omega) (by omega) q HL.out (by rw [← hkk]; omega)
          rw [← hkk, ← HP.out, Nat.add_sub_cancel_left, Nat.add_sub_cancel_left, if_neg (by decide)] at he
          obtain ⟨v, hv⟩ : ∃ v, v = bothR false 0 q2 d false (ps.take q) := ⟨_, rfl⟩
          have hz : U64 0 := by simp [U64]
          have hvb := bothR_bd _ false 0 q2 d false (ps.take q) (Nat.le_refl _) hz (u64_take HRG.out q)
          have ih2 := fun W (hW : Below w.heap.size w W) => ih 0 q2 d false a q c (ps.take q) W (by omega) (by omega) (by omega) (by omega) hz (HRW.out W hW) (by omega) hcm
          rw [← hv] at ih2 hvb he
          obtain ⟨v0, v1, ok⟩ := v
          have HE : Hid (bothR false old (k + q2) (k + d) fl ps = (pairN p v0, pairN p v1, ok)) := he
          have IH : Hid (_) := ih2
          have hv1 := hvb.2
          have hv0 := hvb.1
          clear hkk he hv ih2 ih HRW hvb hz
          rw [k6] at s0 HW
          go_enter Tryz.func89, Tryz.ntmps89
          go_upto_region 1 with fail
          rw [← HW.out]
          clear HW
          go_wp2_with fail
          refine (cutTop_more a q c ps _ (H0.out _ hbb) hc hcm).mono ?_
          rintro e w2 ⟨rfl, hb2⟩
          rw [← HP.out]
          clear s0 s1 s2
          have s0 : w2.cell? ⟨w.heap.size, 0, none⟩ = some (.int .i64 ((k + q2 : Nat) : Int)) := (cell_of_row _ _ 0 _ 133 (0, 0) (HB.out _ hb2).1).trans rfl
          have s1 : w2.cell? ⟨w.heap.size, 1, none⟩ = some (.int .u64 old) := (cell_of_row _ _ 1 _ 133 (0, 0) (HB.out _ hb2).1).trans rfl
          have s2 : w2.cell? ⟨w.heap.size, 2, none⟩ = some (.bool fl) := (cell_of_row _ _ 2 _ 133 (0, 0) (HB.out _ hb2).1).trans rfl
          rw [k6] at s0
          go_wp2_with fail
          refine (firstPart_any _ _ (by omega)).mono ?_
          rintro e w3 ⟨rfl, hw⟩
          have hw3 := hw.symm
          subst hw3
          rw [← HKK.out]
          go_wp2_with fail
          refine (IH.out _ (keepT hbb hb2)).mono ?_
          rintro e w3 ⟨rfl, hb3⟩
          obtain ⟨w4, hw4⟩ : ∃ w4, w4 = w3.alloc (.cells #[.int .u64 v0, .int .u64 v1] 129) := ⟨_, rfl⟩
          have hb4 : Below w3.heap.size w3 w4 := by rw [hw4]; exact (Below.refl _ _).alloc (Nat.le_refl _) _
          have HB4 : Hid (∀ W, Below w4.heap.size w4 W → W.heap[w3.heap.size]? = some (.cells #[.int .u64 v0, .int .u64 v1] 129)) := fun W hW => (hW.block _ (by rw [hw4]; simp)).trans (by rw [hw4]; exact heap_alloc_new _ _)
          have hbx : Below w1.heap.size w1 w4 := keepT (keepT hb2 hb3) hb4
          have hlw : w3.heap.size < w4.heap.size := by rw [hw4]; simp
          have hlw2 : w.heap.size + 1 < w4.heap.size := by have := hbx.size; omega
          have HW4 : Hid (_ = _) := hw4
          clear s0 s1 s2 hw4
          go_upto_region 13 with fail
          rw [← HW4.out]
          clear HW4
          have x0 : w4.cell? ⟨w3.heap.size, 0, none⟩ = some (.int .u64 v0) := (cell_of_row _ _ 0 _ 129 (0, 0) (HB4.out _ (Below.refl _ _))).trans rfl
          have x1 : w4.cell? ⟨w3.heap.size, 1, none⟩ = some (.int .u64 v1) := (cell_of_row _ _ 1 _ 129 (0, 0) (HB4.out _ (Below.refl _ _))).trans rfl
          have hdr : Below w4.heap.size w4 w4.drew := (Below.refl _ _).drew
          go_region_with (first
            | (go_at_call_of 105 v0; refine (pairOf_any p v0 _ hpb hv0).mono ?_; rintro e w5 ⟨rfl, hb5⟩; have hb45 := keepT hdr hb5; have y0 : w5.cell? ⟨w3.heap.size, 1, none⟩ = some (.int .u64 v1) := (cell_of_row _ _ 1 _ 129 (0, 0) (HB4.out _ hb45)).trans rfl)
            | (go_at_call_of 105 v1; refine (pairOf_any p v1 _ hpb hv1).mono ?_; rintro e w6 ⟨rfl, hb6⟩; have hb15 := keepT hbx (keepT hb45 hb6); have f0 : w6.frozen? ⟨w.heap.size + 1, 0, none⟩ = false := frozen_of_row w6 _ 0 _ 129 (HB.out _ hb15).2; have f1 : w6.frozen? ⟨w.heap.size + 1, 1, none⟩ = false := frozen_of_row w6 _ 1 _ 129 (HB.out _ hb15).2; have r0 : w6.cell? ⟨w.heap.size + 1, 0, none⟩ = some (.int .u64 0) := (cell_of_row _ _ 0 _ 129 (0, 0) (HB.out _ hb15).2).trans rfl; have r1 : w6.cell? ⟨w.heap.size + 1, 1, none⟩ = some (.int .u64 0) := (cell_of_row _ _ 1 _ 129 (0, 0) (HB.out _ hb15).2).trans rfl))
          all_goals
            go_wp2
            try simp only [Exit.inBlock, Exit.then]
            refine bodyPost_ret (results_br rfl _ (w.heap.size + 1) rfl _ rfl _ _ _ (heap_set2 (HB.out _ hb15).2 _ _)) rfl ⟨by rw [HE.out]; rfl, ((keepT hbb hb15).setCell (by simp) _).setCell (by simp) _⟩

end Go.Proofs.YtmoekmonkpihhaaGreat

namespace Go.Proofs.YtmoekmonkpihhaaGreat
open Go.RowKit Go.Sort

set_option maxRecDepth 10000 in
set_option maxHeartbeats 2000000 in
theorem l15Both_any : ∀ (N : Nat) (old : Int) (m n : Nat) (fl : Bool) (a : Option Addr) (l c : Nat) (ps : List Int) (w : World), n ≤ N → 0 < m → m ≤ n → n ≤ 1000 → U64 old → RowU w a l ps → l ≤ c → c ≤ 9223372036854775807 →
    Calls Tryz.prog 39 #[.int .u64 old, .int .i64 m, .int .i64 n, .bool fl, .slice a l c] w fun e w' => e = .returned (.tuple #[.int .u64 (bothR true old m n fl ps).1, .int .u64 (bothR true old m n fl ps).2.1, .bool (bothR true old m n fl ps).2.2]) ∧ Below w.heap.size w w' := by
  intro N
  induction N with
  | zero => intro old m n fl a l c ps w hN h0; omega
  | succ N ih =>
    intro old m n fl a l c ps w hN h0 hin hn ho h hc hcm
    have H0 : Hid (RowU w a l ps) := h
    have HL : Hid (ps.length = l) := h.len
    have HRG : Hid (∀ k, U64 (ps.getD k 0)) := h.rng
    clear h
    by_cases h1 : m = n
    · subst h1
      cases fl with
      | true =>
        have HE : Hid (bothR true old m m true ps = (old, old, decide (l = 0))) := by show _ = _; rw [bothR_known true old m m ps (.inl (Nat.le_refl _)), HL.out]
        by_cases hl : l = 0
        · subst hl
          go_enter Tryz.func39, Tryz.ntmps39
          go_wp2
          go_ret3
          exact ⟨by rw [HE.out]; rfl, Below.refl _ _⟩
        · have z0 : ((l : Int) == 0) = false := by simp; omega
          have z1 : decide (l = 0) = false := by simp; omega
          go_enter Tryz.func39, Tryz.ntmps39
          go_wp2
          go_ret3
          exact ⟨by rw [HE.out, z1]; rfl, Below.refl _ _⟩
      | false =>
        have HE : Hid (bothR true old m m false ps = if l = 1 then (ps.getD 0 0, ps.getD 0 0, true) else (0, 0, false)) := by show _ = _; rw [bothR_spec old m m ps (.inl (Nat.le_refl _)), HL.out]
        by_cases hl : l = 1
        · subst hl
          obtain ⟨b, off, rfl, hlb, hc0⟩ := H0.out.get 0 (by omega)
          rw [Nat.add_zero] at hc0
          obtain ⟨p, hp⟩ : ∃ p, p = ps.getD 0 0 := ⟨_, rfl⟩
          rw [← hp] at hc0 HE
          clear hp
          go_enter Tryz.func39, Tryz.ntmps39
          go_wp2
          go_quiet (fail)
          go_wp2
          go_ret3
          exact ⟨by rw [HE.out]; rfl, below_dnT (Below.refl _ _) nq⟩
        · have z0 : ((l : Int) != 1) = true := by simp; omega
          have z2 : ¬ (l : Int) = 1 := by omega
          go_enter Tryz.func39, Tryz.ntmps39
          go_wp2
          go_ret3
          exact ⟨by rw [HE.out, if_neg hl]; rfl, Below.refl _ _⟩
    · have z1 : ((m : Int) == (n : Int)) = false := by simp; omega
      have z3 : ¬ (m : Int) = (n : Int) := by omega
      by_cases hl : l = 0
      · subst hl
        have HE : Hid (bothR true old m n fl ps = (0, 0, false)) := bothR_nil true old m n fl ps (by omega) (by omega) HL.out
        go_enter Tryz.func39, Tryz.ntmps39
        go_wp2
        go_ret3
        exact ⟨by rw [HE.out]; rfl, Below.refl _ _⟩
      · obtain ⟨q, rfl⟩ : ∃ q, l = q + 1 := ⟨l - 1, by omega⟩
        have zl1 : ((q : Int) + 1 == 0) = false := by simp; omega
        have zl2 : ¬ (q : Int) + 1 = 0 := by omega
        obtain ⟨b, off, rfl, hlb, hc0⟩ := H0.out.get q (by omega)
        obtain ⟨p, hp⟩ : ∃ p, p = ps.getD q 0 := ⟨_, rfl⟩
        have HP : Hid (p = ps.getD q 0) := hp
        have hpb := H0.out.rng q
        rw [← hp] at hc0 hpb
        clear hp
        have j1 : ((q + 1 : Nat) : Int) - 1 = (q : Int) := by omega
        have j2 : IntKind.i64.wrap (q : Int) = (q : Int) := by rw [IntKind.wrap_i64]; omega
        have j4 : (q : Int) ≤ (c : Int) := by omega
        have j7 : (q : Int) < (q : Int) + 1 := by omega
        have hkl := hk_lt (show 2 ≤ n by omega)
        have hkp := hk_pos n
        obtain ⟨k, hkk⟩ : ∃ k, k = hk n := ⟨_, rfl⟩
        have HKK : Hid (k = hk n) := hkk
        rw [← hkk] at hkl hkp
        have HRW : Hid (∀ W, Below w.heap.size w W → RowU W (some ⟨b, off, none⟩) q (ps.take q)) := fun W hW => (H0.out.take q (by omega)).kept hW
        by_cases hik : m ≤ k
        · skip
          have k1 : (m : Int) ≤ (k : Int) := by omega
          have he := bothR_lo true old m n fl ps (by omega) (by omega) q HL.out (by rw [← hkk]; exact hik)
          rw [← hkk, ← HP.out] at he
          obtain ⟨v, hv⟩ : ∃ v, v = bothR true old m k fl (ps.take q) := ⟨_, rfl⟩
          have hvb := bothR_bd _ true old m k fl (ps.take q) (Nat.le_refl _) ho (u64_take HRG.out q)
          have ih2 := fun W (hW : Below w.heap.size w W) => ih old m k fl (some ⟨b, off, none⟩) q c (ps.take q) W (by omega) h0 hik (by omega) ho (HRW.out W hW) (by omega) hcm
          rw [← hv] at ih2 hvb he
          obtain ⟨v0, v1, ok⟩ := v
          have HE : Hid (bothR true old m n fl ps = (v0, pairN v1 p, ok)) := he
          have IH : Hid (_) := ih2
          have hv1 := hvb.2
          clear hkk he hv ih2 ih HRW hvb
          go_enter Tryz.func39, Tryz.ntmps39
          go_wp2_with fail
          refine (l15Half_any _ _ (by omega)).mono ?_
          rintro e w2 ⟨rfl, hw⟩
          have hw2 := hw.symm
          subst hw2
          rw [← HKK.out]
          go_wp2_with fail
          refine (IH.out _ (Below.refl _ _)).mono ?_
          rintro e w3 ⟨rfl, hb3⟩
          have hcl3 : w3.cell? ⟨b, off + q, none⟩ = some (.int .u64 p) := (hb3.cell (p := ⟨b, off + q, none⟩) hlb).trans hc0
          go_wp2_with fail
          refine (l15Pair_any v1 p _ hv1 hpb).mono ?_
          rintro e w4 ⟨rfl, hb4⟩
          go_wp2
          go_ret3
          exact ⟨by rw [HE.out]; rfl, keepT hb3 hb4⟩
        · skip
          obtain ⟨q2, rfl⟩ : ∃ q2, m = k + q2 := ⟨m - k, by omega⟩
          obtain ⟨d, rfl⟩ : ∃ d, n = k + d := ⟨n - k, by omega⟩
          have k1 : ¬ (k : Int) + (q2 : Int) ≤ (k : Int) := by omega
          have k2 : (k : Int) + (q2 : Int) - (k : Int) = (q2 : Int) := by omega
          have k3 : (k : Int) + (d : Int) - (k : Int) = (d : Int) := by omega
          have k4 : IntKind.i64.wrap (q2 : Int) = (q2 : Int) := by rw [IntKind.wrap_i64]; omega
          have k5 : IntKind.i64.wrap (d : Int) = (d : Int) := by rw [IntKind.wrap_i64]; omega
          have he := bothR_hi true old (k + q2) (k + d) fl ps (by omega) (by omega) q HL.out (by rw [← hkk]; omega)
          rw [← hkk, ← HP.out, Nat.add_sub_cancel_left, Nat.add_sub_cancel_left, if_pos rfl] at he
          obtain ⟨v, hv⟩ : ∃ v, v = bothR true old q2 d false (ps.take q) := ⟨_, rfl⟩
          have hvb := bothR_bd _ true old q2 d false (ps.take q) (Nat.le_refl _) ho (u64_take HRG.out q)
          have ih2 := fun W (hW : Below w.heap.size w W) => ih old q2 d false (some ⟨b, off, none⟩) q c (ps.take q) W (by omega) (by omega) (by omega) (by omega) ho (HRW.out W hW) (by omega) hcm
          rw [← hv] at ih2 hvb he
          obtain ⟨v0, v1, ok⟩ := v
          have HE : Hid (bothR true old (k + q2) (k + d) fl ps = (pairN p v0, pairN p v1, ok)) := he
          have IH : Hid (_) := ih2
          have hv1 := hvb.2
          have hv0 := hvb.1
          clear hkk he hv ih2 ih HRW hvb
          go_enter Tryz.func39, Tryz.ntmps39
          go_wp2_with fail
          refine (l15Half_any _ _ (by omega)).mono ?_
          rintro e w2 ⟨rfl, hw⟩
          have hw2 := hw.symm
          subst hw2
          rw [← HKK.out]
          go_wp2_with fail
          refine (IH.out _ (Below.refl _ _)).mono ?_
          rintro e w3 ⟨rfl, hb3⟩
          have hcl3 : w3.cell? ⟨b, off + q, none⟩ = some (.int .u64 p) := (hb3.cell (p := ⟨b, off + q, none⟩) hlb).trans hc0
          have qc0 := cell_regrown hcl3
          have ca0 : Hid (∀ d os, Calls Tryz.prog 71 #[.int .u64 p, .int .u64 v0] (grow (redrawn w3 d) os) fun e w'' => e = .returned (.int .u64 (pairN p v0)) ∧ ∃ p : Regrown, w'' = grow (redrawn w3 p.d) p.os) := fun d os => Calls.regrown_of (l15Pair_any p v0 _ hpb hv0)
          have ca1 : Hid (∀ d os, Calls Tryz.prog 71 #[.int .u64 p, .int .u64 v1] (grow (redrawn w3 d) os) fun e w'' => e = .returned (.int .u64 (pairN p v1)) ∧ ∃ p : Regrown, w'' = grow (redrawn w3 p.d) p.os) := fun d os => Calls.regrown_of (l15Pair_any p v1 _ hpb hv1)
          go_wp2_with fail
          refine wp_region_quiet_below (by kernel_rfl) (by kernel_rfl) ?_
          go_big_quiet_step (fail)
          go_big_quiet_step (fail)
          go_big_quiet_step (fail)
          go_big_quiet_step (fail)
          go_big_quiet_step (fail)
          go_big_quiet_step (exact ca0.out _ _)
          go_big_quiet_step (fail)
          go_big_quiet_step (fail)
          go_big_quiet_step (fail)
          go_big_quiet_step (fail)
          go_big_quiet_step (fail)
          go_big_quiet_step (exact ca1.out _ _)
          go_big_quiet_step (fail)
          go_big_quiet_step (fail)
          go_big_quiet_step (fail)
          go_big_quiet_step (fail)
          refine wpQuiet_nil ?_
          intro _ hw'
          obtain ⟨⟨dq, osq⟩, hw''⟩ := hw'
          subst hw''
          have HBQ : Hid (Below w3.heap.size w3 (grow (redrawn w3 dq) osq)) := below_regrown w3 dq osq
          go_wp2
          go_ret3
          exact ⟨by rw [HE.out]; rfl, keepT hb3 HBQ.out⟩

end Go.Proofs.YtmoekmonkpihhaaGreat

namespace Go.Proofs.YtmoekmonkpihhaaGreat
open Go.RowKit Go.Sort

/-- Whether a proof of a beginning is taken. -/
def cxP (old m root n : Int) (ps : List Int) : Bool :=
  if 1 ≤ n ∧ n ≤ 200 ∧ 1 ≤ m ∧ m ≤ n then
    (bothR true old m.toNat n.toNat true ps).2.2 && (decide ((bothR true old m.toNat n.toNat true ps).1 = old) && decide ((bothR true old m.toNat n.toNat true ps).2.1 = root))
  else false
theorem cxP_impl (old root : Int) (m n : Nat) (ps : List Int) (h : 1 ≤ (n : Int) ∧ (n : Int) ≤ 200 ∧ 1 ≤ (m : Int) ∧ (m : Int) ≤ n) : cxP old m root n ps = ((bothR false old m n true ps).2.2 && (decide ((bothR false old m n true ps).1 = old) && decide ((bothR false old m n true ps).2.1 = root))) := by
  unfold cxP
  rw [if_pos h, Int.toNat_natCast, Int.toNat_natCast]
  obtain ⟨e1, e2⟩ := both_same n old old m n true ps (Nat.le_refl _) (fun _ => rfl)
  cases hb : (bothR true old m n true ps).2.2 with
  | false => rw [← e1, hb, Bool.false_and, Bool.false_and]
  | true => rw [← e2 hb, hb]

set_option maxRecDepth 10000 in
set_option maxHeartbeats 1000000 in
theorem specCheckExtend_any (old m root n : Int) (a : Option Addr) (l c : Nat) (ps : List Int) (w : World) (ho : U64 old) (h : RowU w a l ps) (hc : l ≤ c) (hcm : c ≤ 9223372036854775807) :
    Calls Tryz.prog 25 #[.int .u64 old, .int .i64 m, .int .u64 root, .int .i64 n, .slice a l c] w fun e w' => e = .returned (.bool (cxP old m root n ps)) ∧ Below w.heap.size w w' := by
  have H0 : Hid (RowU w a l ps) := h
  clear h
  by_cases h1 : 1 ≤ n ∧ n ≤ 200
  · by_cases h2 : 1 ≤ m ∧ m ≤ n
    · obtain ⟨n', rfl⟩ := Int.eq_ofNat_of_zero_le (show 0 ≤ n by omega)
      obtain ⟨m', rfl⟩ := Int.eq_ofNat_of_zero_le (show 0 ≤ m by omega)
      have hh : 1 ≤ (n' : Int) ∧ (n' : Int) ≤ 200 ∧ 1 ≤ (m' : Int) ∧ (m' : Int) ≤ n' := ⟨h1.1, h1.2, h2.1, h2.2⟩
      have HV : Hid (cxP old m' root n' ps = ((bothR true old m' n' true ps).2.2 && (decide ((bothR true old m' n' true ps).1 = old) && decide ((bothR true old m' n' true ps).2.1 = root)))) := by show _ = _; unfold cxP; rw [if_pos hh, Int.toNat_natCast, Int.toNat_natCast]
      obtain ⟨v, hv⟩ : ∃ v, v = bothR true old m' n' true ps := ⟨_, rfl⟩
      have hr := fun W (hW : Below w.heap.size w W) => l15Both_any n' old m' n' true a l c ps W (Nat.le_refl _) (by omega) (by omega) (by omega) ho (H0.out.kept hW) hc hcm
      rw [← hv] at hr HV
      have HR : Hid (_) := hr
      clear hv hr hh
      obtain ⟨v0, v1, ok⟩ := v
      go_enter Tryz.func25, Tryz.ntmps25
      go_wp2_with fail
      refine (l1In_t (n' : Int) 1 200 _ h1).mono ?_
      rintro e w1 ⟨rfl, hw⟩
      have hw2 := hw.symm
      subst hw2
      go_wp2_with fail
      refine (l1In_t (m' : Int) 1 (n' : Int) _ h2).mono ?_
      rintro e w1 ⟨rfl, hw⟩
      have hw2 := hw.symm
      subst hw2
      go_wp2_with fail
      refine (HR.out _ (Below.refl _ _)).mono ?_
      rintro e w1 ⟨rfl, hb1⟩
      cases ok with
      | false =>
        go_wp2
        go_ret
        exact ⟨by rw [HV.out]; rfl, hb1⟩
      | true =>
        by_cases hvo : v0 = old
        · subst hvo
          by_cases hvr : v1 = root
          · subst hvr
            go_wp2
            go_ret
            exact ⟨by rw [HV.out]; simp, hb1⟩
          · have z1 : (v1 == root) = false := by simpa using hvr
            go_wp2
            go_ret
            exact ⟨by rw [HV.out]; simp [hvr], hb1⟩
        · have z1 : (v0 == old) = false := by simpa using hvo
          go_wp2
          go_ret
          exact ⟨by rw [HV.out]; simp [hvo], hb1⟩
    · have HV : Hid (cxP old m root n ps = false) := by show _ = _; unfold cxP; rw [if_neg (fun hh => h2 ⟨hh.2.2.1, hh.2.2.2⟩)]
      go_enter Tryz.func25, Tryz.ntmps25
      go_wp2_with fail
      refine (l1In_t n 1 200 _ h1).mono ?_
      rintro e w1 ⟨rfl, hw⟩
      have hw2 := hw.symm
      subst hw2
      go_wp2_with fail
      refine (l1In_f m 1 n _ h2).mono ?_
      rintro e w1 ⟨rfl, hw⟩
      have hw2 := hw.symm
      subst hw2
      go_wp2
      go_ret
      exact ⟨by rw [HV.out]; rfl, Below.refl _ _⟩
  · have HV : Hid (cxP old m root n ps = false) := by show _ = _; unfold cxP; rw [if_neg (fun hh => h1 ⟨hh.1, hh.2.1⟩)]
    go_enter Tryz.func25, Tryz.ntmps25
    go_wp2_with fail
    refine (l1In_f n 1 200 _ h1).mono ?_
    rintro e w1 ⟨rfl, hw⟩
    have hw2 := hw.symm
    subst hw2
    go_wp2
    go_ret
    exact ⟨by rw [HV.out]; rfl, Below.refl _ _⟩

set_option maxRecDepth 10000 in
set_option maxHeartbeats 1000000 in
theorem implCheckExtend_any (old m root n : Int) (a : Option Addr) (l c : Nat) (ps : List Int) (w : World) (ho : U64 old) (h : RowU w a l ps) (hc : l ≤ c) (hcm : c ≤ 9223372036854775807) :
    Calls Tryz.prog 57 #[.int .u64 old, .int .i64 m, .int .u64 root, .int .i64 n, .slice a l c] w fun e w' => e = .returned (.bool (cxP old m root n ps)) ∧ Below w.heap.size w w' := by
  have H0 : Hid (RowU w a l ps) := h
  clear h
  by_cases h1 : 1 ≤ n ∧ n ≤ 200
  · by_cases h2 : 1 ≤ m ∧ m ≤ n
    · obtain ⟨n', rfl⟩ := Int.eq_ofNat_of_zero_le (show 0 ≤ n by omega)
      obtain ⟨m', rfl⟩ := Int.eq_ofNat_of_zero_le (show 0 ≤ m by omega)
      have hh : 1 ≤ (n' : Int) ∧ (n' : Int) ≤ 200 ∧ 1 ≤ (m' : Int) ∧ (m' : Int) ≤ n' := ⟨h1.1, h1.2, h2.1, h2.2⟩
      have HV : Hid (cxP old m' root n' ps = ((bothR false old m' n' true ps).2.2 && (decide ((bothR false old m' n' true ps).1 = old) && decide ((bothR false old m' n' true ps).2.1 = root)))) := cxP_impl old root m' n' ps hh
      obtain ⟨v, hv⟩ : ∃ v, v = bothR false old m' n' true ps := ⟨_, rfl⟩
      have hr := fun W (hW : Below w.heap.size w W) => extendedRoots_any n' old m' n' true a l c ps W (Nat.le_refl _) (by omega) (by omega) (by omega) ho (H0.out.kept hW) hc hcm
      rw [← hv] at hr HV
      have HR : Hid (_) := hr
      clear hv hr hh
      obtain ⟨v0, v1, ok⟩ := v
      go_enter Tryz.func57, Tryz.ntmps57
      go_wp2_with fail
      refine (inBounds_t (n' : Int) 1 200 _ h1).mono ?_
      rintro e w1 ⟨rfl, hw⟩
      have hw2 := hw.symm
      subst hw2
      go_wp2_with fail
      refine (inBounds_t (m' : Int) 1 (n' : Int) _ h2).mono ?_
      rintro e w1 ⟨rfl, hw⟩
      have hw2 := hw.symm
      subst hw2
      go_wp2_with fail
      refine (HR.out _ (Below.refl _ _)).mono ?_
      rintro e w1 ⟨rfl, hb1⟩
      obtain ⟨w2, hw2⟩ : ∃ w2, w2 = w1.alloc (.cells #[.int .u64 v0, .int .u64 v1] 129) := ⟨_, rfl⟩
      have hb2 : Below w1.heap.size w1 w2 := by rw [hw2]; exact (Below.refl _ _).alloc (Nat.le_refl _) _
      have hbk : w2.heap[w1.heap.size]? = some (.cells #[.int .u64 v0, .int .u64 v1] 129) := by rw [hw2]; exact heap_alloc_new _ _
      have x0 : w2.cell? ⟨w1.heap.size, 0, none⟩ = some (.int .u64 v0) := (cell_of_row _ _ 0 _ 129 (0, 0) hbk).trans rfl
      have x1 : w2.cell? ⟨w1.heap.size, 1, none⟩ = some (.int .u64 v1) := (cell_of_row _ _ 1 _ 129 (0, 0) hbk).trans rfl
      have HW2 : Hid (_ = _) := hw2
      have HB2 : Hid (Below w.heap.size w w2) := keepT hb1 hb2
      clear hw2 hbk hb2
      go_upto_region 4 with fail
      rw [← HW2.out]
      clear HW2
      cases ok with
      | false =>
        go_wp2
        go_ret
        exact ⟨by rw [HV.out]; rfl, HB2.out⟩
      | true =>
        by_cases hvo : v0 = old
        · subst hvo
          by_cases hvr : v1 = root
          · subst hvr
            go_wp2
            go_ret
            exact ⟨by rw [HV.out]; simp, HB2.out⟩
          · have z1 : (v1 == root) = false := by simpa using hvr
            go_wp2
            go_ret
            exact ⟨by rw [HV.out]; simp [hvr], HB2.out⟩
        · have z1 : (v0 == old) = false := by simpa using hvo
          go_wp2
          go_ret
          exact ⟨by rw [HV.out]; simp [hvo], HB2.out⟩
    · have HV : Hid (cxP old m root n ps = false) := by show _ = _; unfold cxP; rw [if_neg (fun hh => h2 ⟨hh.2.2.1, hh.2.2.2⟩)]
      go_enter Tryz.func57, Tryz.ntmps57
      go_wp2_with fail
      refine (inBounds_t n 1 200 _ h1).mono ?_
      rintro e w1 ⟨rfl, hw⟩
      have hw2 := hw.symm
      subst hw2
      go_wp2_with fail
      refine (inBounds_f m 1 n _ h2).mono ?_
      rintro e w1 ⟨rfl, hw⟩
      have hw2 := hw.symm
      subst hw2
      go_wp2
      go_ret
      exact ⟨by rw [HV.out]; rfl, Below.refl _ _⟩
  · have HV : Hid (cxP old m root n ps = false) := by show _ = _; unfold cxP; rw [if_neg (fun hh => h1 ⟨hh.1, hh.2.1⟩)]
    go_enter Tryz.func57, Tryz.ntmps57
    go_wp2_with fail
    refine (inBounds_f n 1 200 _ h1).mono ?_
    rintro e w1 ⟨rfl, hw⟩
    have hw2 := hw.symm
    subst hw2
    go_wp2
    go_ret
    exact ⟨by rw [HV.out]; rfl, Below.refl _ _⟩

end Go.Proofs.YtmoekmonkpihhaaGreat

namespace Go.Proofs.YtmoekmonkpihhaaGreat
open Go.RowKit Go.Sort

theorem OwnU.blk {B : Nat} {w : World} {a : Option Addr} {n cap : Nat} {zs : List Int} (h : OwnU B w a n cap zs) : ∀ x, a = some x → B ≤ x.block ∧ x.block < w.heap.size := by
  intro x hx
  subst hx
  exact h.row.lt x.block rfl
theorem RowU.grownU {w w' : World} {a b : Option Addr} {n cap m : Nat} {ys : List Int} (h : RowU w b m ys) (hg : w.grownBy w' (Value.slice a n cap).ownBlock) (hne : ∀ x y, a = some x → b = some y → x.block ≠ y.block) : RowU w' b m ys := by
  refine ⟨h.len, fun k hk => ?_, h.rng⟩
  obtain ⟨b', off, rfl, hlt, hc⟩ := h.get k hk
  refine ⟨b', off, rfl, Nat.lt_of_lt_of_le hlt hg.size, (World.cell?_of_block (a := ⟨b', off + k, none⟩) (hg.block b' hlt (fun e => ?_))).trans hc⟩
  cases a with
  | none => simp [Value.ownBlock] at e
  | some x => simp [Value.ownBlock] at e; exact hne x _ rfl rfl e.symm
theorem OwnU.grownU {B : Nat} {w w' : World} {a b : Option Addr} {n cap m c : Nat} {ys : List Int} (h : OwnU B w b m c ys) (hg : w.grownBy w' (Value.slice a n cap).ownBlock) (hne : ∀ x y, a = some x → b = some y → x.block ≠ y.block) : OwnU B w' b m c ys := by
  refine ⟨h.row.kept hg ?_, h.rng⟩
  cases b with
  | none => exact .inl rfl
  | some y =>
    refine .inr (fun e => ?_)
    cases a with
    | none => simp [Value.ownBlock] at e
    | some x => simp [Value.ownBlock] at e; exact hne x y rfl rfl e.symm
theorem below_grownU {B : Nat} {w0 w w' : World} {a : Option Addr} {n cap : Nat} (hb : Below B w0 w) (hB : B ≤ w.heap.size) (hg : w.grownBy w' (Value.slice a n cap).ownBlock) (ha : ∀ x, a = some x → B ≤ x.block) : Below B w0 w' := by
  refine hb.grown hg hB (fun k hk => ?_)
  cases a with
  | none => simp [Value.ownBlock] at hk
  | some x => simp [Value.ownBlock] at hk; subst hk; exact ha x rfl

set_option maxRecDepth 10000 in
set_option maxHeartbeats 1000000 in
theorem markU_any (B : Nat) (a : Option Addr) (n cap k : Nat) (zs : List Int) (w : World) (h : OwnU B w a n cap zs) (hn : n ≤ 1000000000) (hk : k ≤ 1000000000) :
    Calls Tryz.prog 18 #[.slice a n cap, .int .i64 k] w fun e w' => e = .returned (.int .i64 (k + n : Nat)) ∧ OwnU B w' a n cap (marksU k n) ∧ w.grownBy w' (Value.slice a n cap).ownBlock := by
  have HL : Hid (zs.length = n) := h.len
  have HRG : Hid (∀ i, U64 (zs.getD i 0)) := h.rng
  have H0 : Hid (OwnU B w a n cap (mkU zs k 0)) := by rw [mkU_zero]; exact h
  clear h
  go_enter Tryz.func18, Tryz.ntmps18
  go_wp2
  go_loopw [1, 5] (fun kk i wr => ∃ j : Nat, j ≤ n ∧ i = .int .i64 j ∧ kk = .int .i64 (k + j : Nat) ∧ Hid (OwnU B wr a n cap (mkU zs k j)) ∧ Hid (w.grownBy wr (Value.slice a n cap).ownBlock)) (fun _ i _ => n - (intOf i).toNat)
  case atStart => exact ⟨0, Nat.zero_le _, rfl, rfl, H0, World.grownBy.refl _ _⟩
  case round =>
    obtain ⟨j, hj, rfl, rfl, HO, HG⟩ := hrel
    by_cases hlt : j < n
    · obtain ⟨g, rfl, hgB, hgs⟩ := HO.out.shape (by omega)
      have hlti : (j : Int) < (n : Int) := by omega
      have hfr : wr.frozen? ⟨g, j, none⟩ = false := HO.out.row.frozenAt j
      have hvl : ((mkU zs k j).map (Value.int .u64)).length = n * 1 := HO.out.row.1
      obtain ⟨y, hy⟩ : ∃ y, wr.cell? ⟨g, j, none⟩ = some y := ⟨_, (HO.out.row.cellAt j (by omega)).trans (List.getElem?_eq_getElem (by omega))⟩
      have hs := HO.out.row.stored j (.int .u64 ((k + j : Nat) : Int))
      have hs1 := hs.1
      rw [← List.map_set, mkU_set zs k j (by rw [HL.out]; exact hlt)] at hs1
      have HN : Hid (OwnU B (wr.setCell ⟨g, j, none⟩ (.int .u64 ((k + j : Nat) : Int))) (some ⟨g, 0, none⟩) n cap (mkU zs k (j + 1))) := ⟨hs1, mkU_bd zs HRG.out k (j + 1) (by omega) (by rw [HL.out]; omega)⟩
      have HGN : Hid (w.grownBy (wr.setCell ⟨g, j, none⟩ (.int .u64 ((k + j : Nat) : Int))) (Value.slice (some ⟨g, 0, none⟩) n cap).ownBlock) := grown_trans HG.out hs.2
      have u1 : IntKind.u64.wrap ((k : Int) + (j : Int)) = (k : Int) + (j : Int) := by rw [IntKind.wrap_u64]; omega
      clear hs hs1 hvl HO HG
      go_wp2
      go_roundw
      case rel => exact ⟨j + 1, by omega, by go_num, by go_num, by have := HN.out; rw [Int.natCast_add] at this; exact this, by have := HGN.out; rw [Int.natCast_add] at this; exact this⟩
      case measure => simp [intOf]; omega
    · obtain rfl : j = n := by omega
      have HF : Hid (OwnU B wr a j cap (marksU k j)) := by have := HO.out; rwa [mkU_all zs k j HL.out] at this
      go_wp2
      go_ret
      exact ⟨rfl, HF.out, HG.out⟩

end Go.Proofs.YtmoekmonkpihhaaGreat

