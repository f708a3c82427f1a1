import Derived.Test.YtjkkokjojaknkaaDoorFA
import Derived.Test.YtjkkokjojaknkaaDoorFC
import Derived.Laws.BytesArg
import Derived.Lib.SlBytesConst
import Derived.Test.YtjkkokjojaknkaaDoorFJ
import Derived.Deep.RegionWith
namespace Go.Proofs.YtjkkokjojaknkaaDoor
open Go.RowKit

def xr (xs ys : List Int) (i : Nat) : Int := bits .xor .u8 (xs.getD i 0) (ys.getD (i % ys.length) 0)
def xorTo (xs ys : List Int) (k : Nat) : List Int := (List.range xs.length).map fun i => if i < k then xr xs ys i else xs.getD i 0
def xorL (xs ys : List Int) : List Int := if ys = [] then xs else xorTo xs ys xs.length

theorem xr_byte {xs ys : List Int} (hx : ∀ k, 0 ≤ xs.getD k 0 ∧ xs.getD k 0 ≤ 255) (hy : ∀ k, 0 ≤ ys.getD k 0 ∧ ys.getD k 0 ≤ 255) (i : Nat) : 0 ≤ xr xs ys i ∧ xr xs ys i ≤ 255 := by
  unfold xr
  have h1 := hx i
  have h2 := hy (i % ys.length)
  rw [u8_xor _ _ h1.1 (by omega) h2.1 (by omega)]
  have : (xs.getD i 0).toNat ^^^ (ys.getD (i % ys.length) 0).toNat < 2 ^ 8 := Nat.xor_lt_two_pow (by omega) (by omega)
  omega
theorem xorTo_len (xs ys : List Int) (k : Nat) : (xorTo xs ys k).length = xs.length := by simp [xorTo]
theorem xorTo_zero (xs ys : List Int) : xorTo xs ys 0 = xs := by
  unfold xorTo
  apply List.ext_getElem
  · simp
  · intro i h1 h2; simp [h2]
theorem xorTo_get (xs ys : List Int) (k : Nat) (h : k < xs.length) : (xorTo xs ys k).getD k 0 = xs.getD k 0 := by simp [xorTo, h]
theorem xorTo_set (xs ys : List Int) (k : Nat) : (xorTo xs ys k).set k (xr xs ys k) = xorTo xs ys (k + 1) := by
  unfold xorTo
  apply List.ext_getElem
  · simp
  · intro i h1 h2
    simp at h1 h2
    rw [List.getElem_set]
    by_cases e : k = i
    · subst e; simp
    · rw [if_neg e]
      simp
      by_cases h3 : i < k
      · rw [if_pos h3, if_pos (by omega)]
      · rw [if_neg h3, if_neg (by omega)]

theorem own_heap {B : Nat} {w : World} {g n : Nat} {bs : List Int} (h : Own B w (some ⟨g, 0, none⟩) n n bs) : w.heap[g]? = some (.cells (bs.map (Value.int .u8)).toArray 5 (0, 0)) := by
  rcases h.row.2 with ⟨h', _⟩ | ⟨g', cap', cur, h', hb, hg, _, _, hsz, ht⟩
  · simp at h'
  · simp only [Value.slice.injEq, Option.some.injEq, Addr.mk.injEq, and_true, true_and] at h'
    obtain ⟨rfl, rfl⟩ := h'
    rw [List.take_of_length_le (by simp; omega)] at ht
    rw [hg, ← ht]
theorem own_of_heap {B : Nat} {w : World} {g n : Nat} {bs : List Int} (hB : B ≤ g) (hn : bs.length = n) (hm : n ≤ maxLen) (h : w.heap[g]? = some (.cells (bs.map (Value.int .u8)).toArray 5 (0, 0))) (hb : ∀ k, 0 ≤ bs.getD k 0 ∧ bs.getD k 0 ≤ 255) : Own B w (some ⟨g, 0, none⟩) n n bs :=
  ⟨⟨by simp [hn], .inr ⟨g, n, _, rfl, hB, h, Nat.le_refl _, hm, by simp [hn], List.take_of_length_le (by simp [hn])⟩⟩, hb⟩
theorem splice_all {α : Type} (L cs : List α) (h : cs.length = L.length) : splice L 0 cs = cs := by simp [splice, h]

theorem copy_src {w : World} {a : Option Addr} {n : Nat} {xs : List Int} {cs : List Value} (h : Row w a n xs) (hc : cs = xs.map (Value.int .u8)) (h0 : 0 < cs.length) : ∃ ad, a = some ad ∧ ∀ j v, cs[j]? = some v → w.cell? (ad.add j) = some v := by
  subst hc
  obtain ⟨b, off, rfl, _, _⟩ := h.get 0 (by rw [← h.len]; simpa using h0)
  exact ⟨_, rfl, row_cells h⟩

end Go.Proofs.YtjkkokjojaknkaaDoor

namespace Go.Proofs.YtjkkokjojaknkaaDoor
open Go.RowKit

theorem convert_row {w : World} {a : Option Addr} {n cap : Nat} {bs : List Int} (h : Row w a n bs) : (convert 22 9 (.slice a n cap)).run Tryd.prog w = .ok (.string (strOfNums bs)) w := by
  rcases Nat.eq_zero_or_pos n with h0 | h0
  · subst h0
    have hb : bs = [] := List.eq_nil_of_length_eq_zero h.len
    subst hb
    cases a with
    | none => exact run_convert_bytes_nil w 22 5 Tryd.underlying22 Tryd.underlying5 _ _ 9 Tryd.underlying9
    | some x =>
      rw [run_convert_bytes_string w 22 9 5 _ 0 cap Tryd.underlying22 Tryd.underlying5 Tryd.underlying9]
      rw [run_bytesToString w x 0 cap [] (by simpa using run_loadCells_list (P := Tryd.prog) w x ([] : List Value) (by simp))]
      rfl
  · obtain ⟨b, off, rfl, _, _⟩ := h.get 0 h0
    refine run_convert_bytes_arg w 22 5 Tryd.underlying22 Tryd.underlying5 b off n cap bs h.len (fun i hi => ?_) 9 Tryd.underlying9
    obtain ⟨b', off', ha, _, hc⟩ := h.get i hi
    simp at ha
    obtain ⟨rfl, rfl⟩ := ha
    exact hc

theorem strOfNums_inj {xs ys : List Int} (hx : ∀ k, 0 ≤ xs.getD k 0 ∧ xs.getD k 0 ≤ 255) (hy : ∀ k, 0 ≤ ys.getD k 0 ∧ ys.getD k 0 ≤ 255) (h : (strOfNums xs).data.toList = (strOfNums ys).data.toList) : xs = ys := by
  rw [strOfNums_data, strOfNums_data] at h
  have hl : xs.length = ys.length := by have := congrArg List.length h; simpa using this
  apply List.ext_getElem hl
  intro i h1 h2
  have e := congrArg (fun l => l[i]?) h
  simp only [List.getElem?_map, List.getElem?_eq_getElem h1, List.getElem?_eq_getElem h2, Option.map_some, Option.some.injEq] at e
  have e2 := congrArg UInt8.toNat e
  simp only [UInt8.toNat_ofNat'] at e2
  have bx := hx i
  have by' := hy i
  simp [h1] at bx
  simp [h2] at by'
  omega

set_option maxRecDepth 10000 in
set_option maxHeartbeats 400000 in
theorem sameBytes_any (a b : Option Addr) (n m ca cb : Nat) (xs ys : List Int) (w : World) (hx : Row w a n xs) (hy : Row w b m ys) :
    Calls Tryd.prog 18 #[.slice a n ca, .slice b m cb] w fun e w' => e = .returned (.bool (decide (xs = ys))) ∧ w = w' := by
  have c1 := convert_row (cap := ca) hx
  have c2 := convert_row (cap := cb) hy
  have hiff : ((strOfNums xs).toList == (strOfNums ys).toList) = decide (xs = ys) := by
    by_cases e : xs = ys
    · subst e; simp
    · rw [decide_eq_false e]
      rw [beq_eq_false_iff_ne]
      exact fun h => e (strOfNums_inj hx.byte hy.byte (by rw [ByteArray.toList_eq, ByteArray.toList_eq] at h; exact h))
  obtain ⟨s, hs⟩ : ∃ s, s = strOfNums xs := ⟨_, rfl⟩
  obtain ⟨t, ht⟩ : ∃ t, t = strOfNums ys := ⟨_, rfl⟩
  rw [← hs, ← ht] at hiff
  rw [← hs] at c1
  rw [← ht] at c2
  clear hs ht hx hy
  have HI : Hid ((s.toList == t.toList) = decide (xs = ys)) := hiff
  clear hiff
  go_enter Tryd.func18, Tryd.ntmps18
  go_wp2
  go_ret
  refine ⟨?_, rfl⟩
  rw [← HI.out]
  rfl

set_option maxRecDepth 10000 in
set_option maxHeartbeats 400000 in
theorem copied_any (a : Option Addr) (n cap : Nat) (bs : List Int) (w : World) (h : Row w a n bs) (hnil : a = none → cap = 0) (hn : n ≤ 1000000000) :
    Calls Tryd.prog 15 #[.slice a n cap] w fun e w' => ∃ a' cap', e = .returned (.slice a' n cap') ∧ Own w.heap.size w' a' n cap' bs ∧ Below w.heap.size w w' := by
  obtain ⟨i0, hi, hz0, hz1, hz2⟩ := info_parts Tryd.info5
  have HX : Hid (Row w a n bs) := h
  have HB := h.byte
  have HN : Hid (a = none → cap = 0) := hnil
  clear h hnil
  have hoe : Own w.heap.size (w.alloc (.cells #[] 5)) (some ⟨w.heap.size, 0, none⟩) 0 0 [] := ⟨World.ownsRow_lit w #[] 0 (Nat.le_refl _) (Nat.zero_le _) rfl, by simp⟩
  have hbe : Below w.heap.size w (w.alloc (.cells #[] 5)) := (Below.refl _ _).alloc (Nat.le_refl _) _
  go_enter Tryd.func15, Tryd.ntmps15
  go_wp2_with (at_builtin; refine wpList_append_row _ rfl _ _ 22 rfl w.heap.size i0 Tryd.underlying22 hi hz0 hz1 hz2 _ _ _ rfl hoe.row a n cap bs rfl (HX.out.kept (by exact (Below.refl _ _).alloc (Nat.le_refl _) _)) HN.out (by omega) (by simp) ?_; intro v1 w1 hown1 hgrow1)
  obtain ⟨a1, cap1, rfl, ho1⟩ := own_appended (xs := []) (ys := bs) hown1 (by simp) HB
  have hb1 : Below w.heap.size w w1 := below_appended hbe (by simp) hoe.row hgrow1
  rw [Nat.zero_add] at ho1
  go_ret
  exact ⟨a1, cap1, by rw [Nat.zero_add]; rfl, ho1, hb1⟩

theorem bytes5 : ∀ k, 0 ≤ ([108, 105, 118, 101, 115] : List Int).getD k 0 ∧ ([108, 105, 118, 101, 115] : List Int).getD k 0 ≤ 255 := by
  intro k
  match k with
  | 0 | 1 | 2 | 3 | 4 => decide
  | k + 5 => simp
theorem lives_hash : (hashL [108, 105, 118, 101, 115] != 0) = true := by decide +kernel

theorem row_lives (w : World) : Row (w.alloc (.cells #[.int .u8 108, .int .u8 105, .int .u8 118, .int .u8 101, .int .u8 115] 5 (5, 6))) (some ⟨w.heap.size, 0, none⟩) 5 [108, 105, 118, 101, 115] := by
  refine ⟨rfl, fun k hk => ⟨w.heap.size, 0, rfl, by simp, ?_⟩, bytes5⟩
  rw [Nat.zero_add, cell_of_row _ w.heap.size k _ 5 (5, 6) (heap_alloc_new w _)]
  have hc : k = 0 ∨ k = 1 ∨ k = 2 ∨ k = 3 ∨ k = 4 := by omega
  rcases hc with rfl | rfl | rfl | rfl | rfl <;> rfl

set_option maxRecDepth 10000 in
set_option maxHeartbeats 400000 in
theorem lives_any (w : World) : Calls Tryd.prog 13 #[] w fun e w' => e = .returned (.bool true) ∧ Below w.heap.size w w' := by
  obtain ⟨h, hh⟩ : ∃ h, h = hashL [108, 105, 118, 101, 115] := ⟨_, rfl⟩
  have hl := lives_hash
  rw [← hh] at hl
  have HH : Hid (h = hashL [108, 105, 118, 101, 115]) := hh
  clear hh
  have hcv := Lib.run_convert_bytes_const (P := Tryd.prog) w 22 5 #[.int .u8 108, .int .u8 105, .int .u8 118, .int .u8 101, .int .u8 115] 5 5 Tryd.underlying22 Tryd.underlying5
  have e1 : (h == h) = true := by simp
  go_enter Tryd.func13, Tryd.ntmps13
  have ho := row_lives w
  have hb0 : Below w.heap.size w (w.alloc (.cells #[.int .u8 108, .int .u8 105, .int .u8 118, .int .u8 101, .int .u8 115] 5 (5, 6))) := (Below.refl _ _).alloc (Nat.le_refl _) _
  have HO : Hid (Row (w.alloc (.cells #[.int .u8 108, .int .u8 105, .int .u8 118, .int .u8 101, .int .u8 115] 5 (5, 6))) (some ⟨w.heap.size, 0, none⟩) 5 [108, 105, 118, 101, 115]) := ho
  clear ho
  go_wp2_with fail
  refine (implHash_any _ 5 5 _ _ HO.out (by decide)).mono ?_
  rintro e w1 ⟨rfl, hb1⟩
  rw [← HH.out]
  go_wp2_with fail
  refine (specHash_any _ 5 5 _ _ (HO.out.kept hb1) (by decide)).mono ?_
  rintro e w2 ⟨rfl, hw2⟩
  subst hw2
  rw [← HH.out]
  go_wp2_with fail
  refine (implHash_any _ 5 5 _ _ (HO.out.kept hb1) (by decide)).mono ?_
  rintro e w3 ⟨rfl, hb3⟩
  rw [← HH.out]
  go_wp2_with fail
  go_ret
  have z1 := hb0.size
  have z2 := hb1.size
  exact ⟨rfl, hb0.trans ((hb1.mono z1).trans (hb3.mono (by omega)))⟩

end Go.Proofs.YtjkkokjojaknkaaDoor

namespace Go.Proofs.YtjkkokjojaknkaaDoor
open Go.RowKit

/-! sameItem of one item in two places. -/
def SameQ (d : Nat) : Prop := ∀ (d2 : Nat) (x : It) (ab : Option Addr) (nb cb : Nat) (ak : Option Addr) (nk ck : Nat) (ab2 : Option Addr) (cb2 : Nat) (ak2 : Option Addr) (ck2 : Nat) (w : World),
    Row w ab nb x.body → Kids d w ak nk x.kids → Row w ab2 nb x.body → Kids d2 w ak2 nk x.kids →
    Calls Tryd.prog 17 #[itv x ab nb cb ak nk ck, itv x ab2 nb cb2 ak2 nk ck2] w fun e w' => e = .returned (.bool true) ∧ Below w.heap.size w w'

set_option maxRecDepth 10000 in
set_option maxHeartbeats 2000000 in
theorem sameQ_next (d : Nat) (ih : SameQ d) : SameQ (d + 1) := by
  intro d2 x ab nb cb ak nk ck ab2 cb2 ak2 ck2 w hr hk hr2 hk2
  obtain ⟨d2, rfl⟩ : ∃ m, d2 = m + 1 := by
    cases d2 with
    | zero => exact hk2.elim
    | succ m => exact ⟨m, rfl⟩
  have hn := hk.2.1
  have HR : Hid (Row w ab nb x.body) := hr
  have HR2 : Hid (Row w ab2 nb x.body) := hr2
  have HK : Hid (Kids (d + 1) w ak nk x.kids) := hk
  have HK2 : Hid (Kids (d2 + 1) w ak2 nk x.kids) := hk2
  clear hr hk hr2 hk2
  unfold itv
  have t1 : (x.cls != x.cls) = false := by simp
  have t2 : (x.tag != x.tag) = false := by simp
  have t3 : (x.cons != x.cons) = false := by simp
  have t4 : ((nk : Int) != (nk : Int)) = false := by simp
  obtain ⟨b0, b1⟩ := two_blocks w (.cells #[.int .i64 x.cls, .int .i64 x.tag, .bool x.cons, .slice ab nb cb, .slice ak nk ck] 26) (.cells #[.int .i64 x.cls, .int .i64 x.tag, .bool x.cons, .slice ab2 nb cb2, .slice ak2 nk ck2] 26)
  have hB : Below w.heap.size w ((w.alloc (.cells #[.int .i64 x.cls, .int .i64 x.tag, .bool x.cons, .slice ab nb cb, .slice ak nk ck] 26)).alloc (.cells #[.int .i64 x.cls, .int .i64 x.tag, .bool x.cons, .slice ab2 nb cb2, .slice ak2 nk ck2] 26)) := ((Below.refl _ _).alloc (Nat.le_refl _) _).alloc (by simp) _
  have hsB : ((w.alloc (.cells #[.int .i64 x.cls, .int .i64 x.tag, .bool x.cons, .slice ab nb cb, .slice ak nk ck] 26)).alloc (.cells #[.int .i64 x.cls, .int .i64 x.tag, .bool x.cons, .slice ab2 nb cb2, .slice ak2 nk ck2] 26)).heap.size = w.heap.size + 2 := by simp
  have HB0 : Hid (_ = _) := b0
  have HB1 : Hid (_ = _) := b1
  have HBB : Hid (_) := hB
  have SB := sameBytes_any ab ab2 nb nb cb cb2 x.body x.body _ (HR.out.kept hB) (HR2.out.kept hB)
  rw [decide_eq_true (rfl : x.body = x.body)] at SB
  clear b0 b1 hB
  go_enter Tryd.func17, Tryd.ntmps17
  go_wp2_with (go_at_call 18; refine SB.mono ?_; rintro e w1 ⟨rfl, rfl⟩)
  obtain ⟨W, hW⟩ : ∃ W, W = (w.alloc (.cells #[.int .i64 x.cls, .int .i64 x.tag, .bool x.cons, .slice ab nb cb, .slice ak nk ck] 26)).alloc (.cells #[.int .i64 x.cls, .int .i64 x.tag, .bool x.cons, .slice ab2 nb cb2, .slice ak2 nk ck2] 26) := ⟨_, rfl⟩
  rw [← hW] at HB0 HB1 HBB hsB ⊢
  clear hW SB
  go_loopw [5] (fun i wr => ∃ k : Nat, k ≤ nk ∧ i = .int .i64 k ∧ Below W.heap.size W wr) (fun i _ => nk - (intOf i).toNat)
  case atStart => exact ⟨0, Nat.zero_le _, rfl, Below.refl _ _⟩
  case round =>
    obtain ⟨k, hk, rfl, hbr⟩ := hrel
    have k4 : wr.cell? ⟨w.heap.size, 4, none⟩ = some (.slice ak nk ck) := (hbr.cell (p := ⟨w.heap.size, 4, none⟩) (show w.heap.size < W.heap.size by omega)).trans ((cell_of_row _ w.heap.size 4 _ 26 (0, 0) HB0.out).trans rfl)
    have k5 : wr.cell? ⟨w.heap.size + 1, 4, none⟩ = some (.slice ak2 nk ck2) := (hbr.cell (p := ⟨w.heap.size + 1, 4, none⟩) (show w.heap.size + 1 < W.heap.size by omega)).trans ((cell_of_row _ (w.heap.size + 1) 4 _ 26 (0, 0) HB1.out).trans rfl)
    by_cases hkn : k < nk
    · have hbw : Below w.heap.size w wr := HBB.out.trans (hbr.mono (by omega))
      obtain ⟨b1, off1, rfl, hl1, ab1, nb1, cb1, ak1, nk1, ck1, c0, c1, c2, c3, c4, hr1, hn1, hm1, hk1⟩ := HK.out.2.2 k hkn
      obtain ⟨b2, off2, rfl, hl2, ab3, nb2, cb3, ak3, nk2, ck3, e0, e1, e2, e3, e4, hr2, hn2, hm2, hk2⟩ := HK2.out.2.2 k hkn
      obtain ⟨y, hy⟩ : ∃ y, y = x.kids.getD k default := ⟨_, rfl⟩
      rw [← hy] at c0 c1 c2 hr1 hk1 e0 e1 e2 hr2 hk2
      clear hy
      obtain rfl : nb1 = nb2 := hr1.len.symm.trans hr2.len
      obtain rfl : nk1 = nk2 := by
        cases d with
        | zero => exact hk1.elim
        | succ d =>
          cases d2 with
          | zero => exact hk2.elim
          | succ d2 => exact hk1.1.symm.trans hk2.1
      have cc : ∀ j, wr.cell? ⟨b1, j, none⟩ = w.cell? ⟨b1, j, none⟩ := fun j => hbw.cell (p := ⟨b1, j, none⟩) hl1
      have dd : ∀ j, wr.cell? ⟨b2, j, none⟩ = w.cell? ⟨b2, j, none⟩ := fun j => hbw.cell (p := ⟨b2, j, none⟩) hl2
      rw [← cc] at c0 c1 c2 c3 c4
      rw [← dd] at e0 e1 e2 e3 e4
      clear cc dd
      have hkni : (k : Int) < (nk : Int) := by omega
      have hs := hbr.size
      have R1 : Hid (Row wr.drew ab1 nb1 y.body) := hr1.kept hbw.drew
      have R2 : Hid (Row wr.drew ab3 nb1 y.body) := hr2.kept hbw.drew
      have K1 : Hid (Kids d wr.drew ak1 nk1 y.kids) := hk1.kept hbw.drew
      have K2 : Hid (Kids d2 wr.drew ak3 nk1 y.kids) := hk2.kept hbw.drew
      clear hr1 hr2 hk1 hk2
      go_wp2_with fail
      go_region_with (go_at_call 17; refine (ih d2 y ab1 nb1 cb1 ak1 nk1 ck1 ab3 cb3 ak3 ck3 _ R1.out K1.out R2.out K2.out).mono ?_; rintro e w2 ⟨rfl, hb2⟩)
      all_goals
        have b5 : Below W.heap.size W w2 := hbr.drew.trans (hb2.mono hs)
        go_wp2
        go_roundw
        case rel => exact ⟨k + 1, by omega, by go_num, b5⟩
        case measure => simp [intOf]; omega
    · go_wp2
      go_ret
      exact ⟨rfl, HBB.out.trans (hbr.mono (by omega))⟩
theorem sameQ_all (d : Nat) : SameQ d := by
  induction d with
  | zero => intro d2 x ab nb cb ak nk ck ab2 cb2 ak2 ck2 w _ h; exact h.elim
  | succ d ih => exact sameQ_next d ih

end Go.Proofs.YtjkkokjojaknkaaDoor
