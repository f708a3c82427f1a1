import Derived.Test.YtjkkokjojaknkaaDoorG13
import Derived.Deep.RegionWith
namespace Go.Proofs.YtjkkokjojaknkaaDoor
open Go.RowKit

theorem two_blocks (w : World) (o0 o1 : Obj) : ((w.alloc o0).alloc o1).heap[w.heap.size]? = some o0 ∧ ((w.alloc o0).alloc o1).heap[w.heap.size + 1]? = some o1 := by
  have s1 : (w.alloc o0).heap.size = w.heap.size + 1 := by simp
  exact ⟨(alloc_old _ o1 _ (by omega)).trans (heap_alloc_new w o0), by rw [← s1]; exact heap_alloc_new _ o1⟩

def EqS (d : Nat) : Prop := ∀ (a b : Option Addr) (n ca cb : Nat) (xs : List It) (w : World), Kids d w a n xs → Kids d w b n xs →
    Calls Tryd.prog 46 #[.slice a n ca, .slice b n cb] w fun e w' => e = .returned (.bool true) ∧ Below w.heap.size w w'

set_option maxRecDepth 10000 in
set_option maxHeartbeats 1000000 in
theorem eqItem_same (d : Nat) (ih : EqS d) (x : It) (ab : Option Addr) (nb cb : Nat) (ak : Option Addr) (nk ck : Nat) (ab2 : Option Addr) (cb2 : Nat) (ak2 : Option Addr) (ck2 : Nat) (w : World)
    (hr : Row w ab nb x.body) (hk : Kids d w ak nk x.kids) (hr2 : Row w ab2 nb x.body) (hk2 : Kids d w ak2 nk x.kids) (hnb : nb ≤ maxLen) :
    Calls Tryd.prog 24 #[itv x ab nb cb ak nk ck, itv x ab2 nb cb2 ak2 nk ck2] w fun e w' => e = .returned (.bool true) ∧ Below w.heap.size w w' := by
  have HR : Hid (Row w ab nb x.body) := hr
  have HR2 : Hid (Row w ab2 nb x.body) := hr2
  have HK : Hid (Kids d w ak nk x.kids) := hk
  have HK2 : Hid (Kids d w ak2 nk x.kids) := hk2
  clear hr hk hr2 hk2
  unfold itv
  have t1 : (x.cls != x.cls) = false := by simp
  have t2 : (x.tag != x.tag) = false := by simp
  have t3 : (x.cons != x.cons) = false := by simp
  go_enter Tryd.func24, Tryd.ntmps24
  have hB : Below w.heap.size w ((w.alloc (.cells #[.int .i64 x.cls, .int .i64 x.tag, .bool x.cons, .slice ab nb cb, .slice ak nk ck] 26)).alloc (.cells #[.int .i64 x.cls, .int .i64 x.tag, .bool x.cons, .slice ab2 nb cb2, .slice ak2 nk ck2] 26)) := ((Below.refl _ _).alloc (Nat.le_refl _) _).alloc (by simp) _
  go_wp2_with fail
  refine (eqByteS_any ab ab2 nb nb cb cb2 x.body x.body _ (HR.out.kept hB) (HR2.out.kept hB) hnb hnb).mono ?_
  rintro e w1 ⟨rfl, hb1⟩
  rw [decide_eq_true (rfl : x.body = x.body)]
  have hb1' : Below w.heap.size w w1 := hB.trans (hb1.mono (by simp; omega))
  have k4 : w1.cell? ⟨w.heap.size, 4, none⟩ = some (.slice ak nk ck) := (hb1.cell (p := ⟨w.heap.size, 4, none⟩) (by simp; omega)).trans ((cell_of_row _ w.heap.size 4 _ 26 (0, 0) (two_blocks w _ _).1).trans rfl)
  have k5 : w1.cell? ⟨w.heap.size + 1, 4, none⟩ = some (.slice ak2 nk ck2) := (hb1.cell (p := ⟨w.heap.size + 1, 4, none⟩) (by simp)).trans ((cell_of_row _ (w.heap.size + 1) 4 _ 26 (0, 0) (two_blocks w _ _).2).trans rfl)
  clear hb1 hB
  go_wp2_with fail
  refine (ih ak ak2 nk ck ck2 x.kids _ (HK.out.kept hb1') (HK2.out.kept hb1')).mono ?_
  rintro e w2 ⟨rfl, hb2⟩
  go_wp2
  go_ret
  exact ⟨rfl, hb1'.trans (hb2.mono hb1'.size)⟩

set_option maxRecDepth 10000 in
set_option maxHeartbeats 1000000 in
theorem eqItemS_same (d : Nat) (ih : EqS d) : EqS (d + 1) := by
  intro a b n ca cb xs w hk hk2
  have HK : Hid (Kids (d + 1) w a n xs) := hk
  have HK2 : Hid (Kids (d + 1) w b n xs) := hk2
  have hn := hk.2.1
  clear hk hk2
  have t1 : ((n : Int) != (n : Int)) = false := by simp
  go_enter Tryd.func46, Tryd.ntmps46
  go_wp2
  go_loopw [5] (fun i wr => ∃ k : Nat, k ≤ n ∧ i = .int .i64 k ∧ Below w.heap.size w wr) (fun i _ => n - (intOf i).toNat)
  case atStart => exact ⟨0, Nat.zero_le _, rfl, Below.refl _ _⟩
  case round =>
    obtain ⟨k, hk, rfl, hbr⟩ := hrel
    by_cases hkn : k < n
    · obtain ⟨b1, off1, rfl, hl1, ab1, nb1, cb1, ak1, nk1, ck1, c0, c1, c2, c3, c4, hr1, hn1, hm1, hk1⟩ := HK.out.2.2 k hkn
      obtain ⟨b2, off2, rfl, hl2, ab2, nb2, cb2, ak2, nk2, ck2, d0, d1, d2, d3, d4, hr2, hn2, hm2, hk2⟩ := HK2.out.2.2 k hkn
      obtain ⟨y, hy⟩ : ∃ y, y = xs.getD k default := ⟨_, rfl⟩
      rw [← hy] at c0 c1 c2 hr1 hk1 d0 d1 d2 hr2 hk2
      clear hy
      obtain rfl : nb1 = nb2 := hr1.len.symm.trans hr2.len
      obtain rfl : nk1 = nk2 := by
        cases d with
        | zero => exact hk1.elim
        | succ d => exact hk1.1.symm.trans hk2.1
      have cc : ∀ j, wr.cell? ⟨b1, j, none⟩ = w.cell? ⟨b1, j, none⟩ := fun j => hbr.cell (p := ⟨b1, j, none⟩) hl1
      have dd : ∀ j, wr.cell? ⟨b2, j, none⟩ = w.cell? ⟨b2, j, none⟩ := fun j => hbr.cell (p := ⟨b2, j, none⟩) hl2
      rw [← cc] at c0 c1 c2 c3 c4
      rw [← dd] at d0 d1 d2 d3 d4
      clear cc dd
      have hkni : (k : Int) < (n : Int) := by omega
      have hs := hbr.size
      have R1 : Hid (Row wr.drew ab1 nb1 y.body) := hr1.kept hbr.drew
      have R2 : Hid (Row wr.drew ab2 nb1 y.body) := hr2.kept hbr.drew
      have K1 : Hid (Kids d wr.drew ak1 nk1 y.kids) := hk1.kept hbr.drew
      have K2 : Hid (Kids d wr.drew ak2 nk1 y.kids) := hk2.kept hbr.drew
      clear hr1 hr2 hk1 hk2
      go_wp2_with fail
      go_region_with (go_at_call 24; refine (eqItem_same d ih y ab1 nb1 cb1 ak1 nk1 ck1 ab2 cb2 ak2 ck2 _ R1.out K1.out R2.out K2.out (by unfold maxLen; omega)).mono ?_; rintro e w2 ⟨rfl, hb2⟩)
      all_goals
        have b5 : Below w.heap.size w w2 := hbr.drew.trans (hb2.mono hs)
        go_wp2
        go_roundw
        case rel => exact ⟨k + 1, by omega, by go_num, b5⟩
        case measure => simp [intOf]; omega
    · go_wp2
      go_ret
      exact ⟨rfl, hbr⟩

theorem eqS_all (d : Nat) : EqS d := by
  induction d with
  | zero => intro a b n ca cb xs w h; exact h.elim
  | succ d ih => exact eqItemS_same d ih

end Go.Proofs.YtjkkokjojaknkaaDoor

namespace Go.Proofs.YtjkkokjojaknkaaDoor
open Go.RowKit

def BytesAt (d : Nat) : Prop := ∀ (r : Nat) (D : Int) (x : It) (ab : Option Addr) (nb cb : Nat) (ak : Option Addr) (nk ck : Nat) (w : World), r ≤ 12 → D = 13 - (r : Int) → Row w ab nb x.body → (ab = none → cb = 0) → nb ≤ 9223372036854775807 → Kids d w ak nk x.kids →
    Calls Tryd.prog 36 #[itv x ab nb cb ak nk ck, .int .i64 D] w fun e w' => Ans w.heap.size (enc r x) e w' ∧ Below w.heap.size w w'

/-- What innerBytes answers. -/
def InnerAns (o : Option (List Int)) (e : Ending) (w' : World) : Prop :=
  (∃ a n cap bs, e = .returned (.tuple #[.slice a n cap, .bool true]) ∧ Hid (o = some bs) ∧ Row w' a n bs ∧ (a = none → cap = 0)) ∨ (∃ a n cap, e = .returned (.tuple #[.slice a n cap, .bool false]) ∧ Hid (o = none))

theorem own_nil (B : Nat) (w : World) : Own B w none 0 0 [] := ⟨World.ownsRow_nil w B 5 1, by simp⟩
theorem Own.alloc {B : Nat} {w : World} {a : Option Addr} {n cap : Nat} {bs : List Int} (h : Own B w a n cap bs) (o : Obj) : Own B (w.alloc o) a n cap bs := ⟨h.row.alloc o, h.byte⟩

set_option maxRecDepth 10000 in
set_option maxHeartbeats 2000000 in
theorem innerBytes_any (d : Nat) (ih : BytesAt d) (r : Nat) (D : Int) (x : It) (ab : Option Addr) (nb cb : Nat) (ak : Option Addr) (nk ck : Nat) (w : World) (hr : r < 12) (hD : D = 12 - (r : Int)) (hrow : Row w ab nb x.body) (hnil : ab = none → cb = 0) (hnb : nb ≤ 9223372036854775807) (hk : Kids (d + 1) w ak nk x.kids) :
    Calls Tryd.prog 55 #[itv x ab nb cb ak nk ck, .int .i64 D] w fun e w' => InnerAns (innerBy (enc r) x) e w' ∧ Below w.heap.size w w' := by
  obtain ⟨i0, hi, hz0, hz1, hz2⟩ := info_parts Tryd.info5
  have HR : Hid (Row w ab nb x.body) := hrow
  have HK : Hid (Kids (d + 1) w ak nk x.kids) := hk
  have HL : Hid (x.kids.length = nk) := hk.1
  have hnk := hk.2.1
  have HD : Hid (D = 12 - (r : Int)) := hD
  have d1 : 0 ≤ D := by omega
  have d2 : D ≤ 12 := by omega
  clear hrow hk hD
  have hbl : Below w.heap.size w (w.alloc (.cells #[.int .i64 x.cls, .int .i64 x.tag, .bool x.cons, .slice ab nb cb, .slice ak nk ck] 26)) := (Below.refl _ _).alloc (Nat.le_refl _) _
  obtain ⟨co, hco⟩ : ∃ co, co = x.cons := ⟨_, rfl⟩
  have HC : Hid (co = x.cons) := hco
  unfold itv
  rw [← hco] at hbl ⊢
  clear hco
  cases co with
  | false =>
    by_cases h2 : nb ≤ 20000
    · have hI : Hid (innerBy (enc r) x = some x.body) := by show _ = _; rw [innerBy, if_neg (by rw [← HC.out]; decide), if_pos (by rw [HR.out.len]; exact h2)]
      have h2' : (nb : Int) ≤ 20000 := by omega
      go_enter Tryd.func55, Tryd.ntmps55
      go_wp2
      go_quiet (fail)
      go_wp2
      go_ret2
      exact ⟨.inl ⟨ab, nb, cb, x.body, rfl, hI, HR.out.kept (below_drewN hbl nq), hnil⟩, below_drewN hbl nq⟩
    · have hI : Hid (innerBy (enc r) x = none) := by show _ = _; rw [innerBy, if_neg (by rw [← HC.out]; decide), if_neg (by rw [HR.out.len]; exact h2)]
      have h2' : ¬ (nb : Int) ≤ 20000 := by omega
      go_enter Tryd.func55, Tryd.ntmps55
      go_wp2
      go_quiet (fail)
      go_wp2
      go_ret2
      exact ⟨.inr ⟨ab, nb, cb, by show Ending.returned (.tuple #[.slice ab nb cb, .bool (decide ((nb : Int) ≤ 20000))]) = _; rw [decide_eq_false (by omega)], hI⟩, below_drewN hbl nq⟩
  | true =>
    have hI : Hid (innerBy (enc r) x = encK (enc r) [] x.kids) := by show _ = _; rw [innerBy, if_pos (by rw [← HC.out])]
    go_enter Tryd.func55, Tryd.ntmps55
    go_wp2
    go_loopw [6, 23] (fun o i wr => ∃ (k m c : Nat) (ao : Option Addr) (acc : List Int), k ≤ nk ∧ i = .int .i64 k ∧ o = .slice ao m c ∧ Own w.heap.size wr ao m c acc ∧ m ≤ 20000 ∧ Hid (encK (enc r) [] x.kids = encK (enc r) acc (x.kids.drop k)) ∧ Below w.heap.size w wr) (fun _ i _ => nk - (intOf i).toNat)
    case atStart => exact ⟨0, 0, 0, none, [], Nat.zero_le _, rfl, rfl, own_nil _ _, by decide, (by show _ = _; rw [List.drop_zero]), hbl⟩
    case round =>
      obtain ⟨k, m, c, ao, acc, hk, rfl, rfl, hor, hm, hE, hbr⟩ := hrel
      by_cases hkn : k < nk
      · obtain ⟨b, off, rfl, hlb, ab1, nb1, cb1, ak1, nk1, ck1, c0, c1, c2, c3, c4, hr1, hn1, hm1, hk1⟩ := HK.out.2.2 k hkn
        obtain ⟨y, hy⟩ : ∃ y, y = x.kids.getD k default := ⟨_, rfl⟩
        rw [← hy] at c0 c1 c2 hr1 hk1
        have HY : Hid (y = x.kids.getD k default) := hy
        have cc : ∀ j, wr.cell? ⟨b, j, none⟩ = w.cell? ⟨b, j, none⟩ := fun j => hbr.cell (p := ⟨b, j, none⟩) hlb
        rw [← cc] at c0 c1 c2 c3 c4
        clear cc hy
        have hkni : (k : Int) < (nk : Int) := by omega
        have hs := hbr.size
        have hbk : Below w.heap.size w (wr.alloc (.cells #[.int .i64 y.cls, .int .i64 y.tag, .bool y.cons, .slice ab1 nb1 cb1, .slice ak1 nk1 ck1] 26)) := hbr.alloc hs _
        have R1 : Hid (_) := hr1.kept hbk
        have K1 : Hid (_) := hk1.kept hbk
        clear hr1 hk1
        go_wp2_with fail
        refine (ih r (D + 1) y ab1 nb1 cb1 ak1 nk1 ck1 _ (by omega) (by have := HD.out; omega) R1.out hn1 hm1 K1.out).mono ?_
        rintro e w2 ⟨hans, hb2⟩
        have hb2' : Below w.heap.size w w2 := hbk.trans (hb2.mono hbk.size)
        rcases hans with ⟨a2, n2, c2', bs2, rfl, he2, ho2⟩ | ⟨rfl, he2⟩
        · have hl2 : n2 ≤ 20000 := by rw [← ho2.length]; exact enc_len r y bs2 he2.out
          have hor2 := (hor.alloc (.cells #[.int .i64 y.cls, .int .i64 y.tag, .bool y.cons, .slice ab1 nb1 cb1, .slice ak1 nk1 ck1] 26)).kept hb2
          have hla := hor.length
          have hlb2 := ho2.length
          have LA : Hid (acc.length = m) := hla
          have LB : Hid (bs2.length = n2) := hlb2
          have HF : Hid (enc r (x.kids.getD k default) = some bs2) := by show _ = _; rw [← HY.out]; exact he2.out
          have hkl : Hid (k < x.kids.length) := by show _ < _; rw [HL.out]; exact hkn
          clear hla hlb2 hbk hb2 hor
          by_cases hlong : m + n2 ≤ 20000
          · have h3 : ¬ (m : Int) + (n2 : Int) > 20000 := by omega
            have HN : Hid (encK (enc r) [] x.kids = encK (enc r) (acc ++ bs2) (x.kids.drop (k + 1))) := by show _ = _; rw [hE.out]; exact encK_next (enc r) x.kids k hkl.out acc bs2 HF.out (by rw [LA.out, LB.out]; exact hlong)
            go_wp2_with (at_builtin; refine wpList_append_row _ rfl (.tmp 44) (.tmp 45) 22 rfl w.heap.size i0 Tryd.underlying22 hi hz0 hz1 hz2 _ _ _ rfl hor2.row a2 n2 c2' bs2 rfl ho2.toRow ho2.nil (by omega) hb2'.size ?_; intro v3 w3 hv3 hg3)
            obtain ⟨a3, c3, rfl, ho3⟩ := own_appended (xs := acc) (ys := bs2) hv3 hor2.byte ho2.byte
            have hb3 : Below w.heap.size w w3 := below_appended hb2' hb2'.size hor2.row hg3
            go_wp2
            go_roundw
            case rel => exact ⟨k + 1, m + n2, c3, a3, acc ++ bs2, by omega, by go_num, rfl, ho3, hlong, HN, hb3⟩
            case measure => simp [intOf]; omega
          · have h3 : (m : Int) + (n2 : Int) > 20000 := by omega
            have HN : Hid (innerBy (enc r) x = none) := by show _ = _; rw [hI.out, hE.out]; exact encK_long (enc r) x.kids k hkl.out acc bs2 HF.out (by rw [LA.out, LB.out]; exact hlong)
            go_wp2
            go_ret2
            exact ⟨.inr ⟨none, 0, 0, rfl, HN⟩, hb2'⟩
        · have HN : Hid (innerBy (enc r) x = none) := by show _ = _; rw [hI.out, hE.out]; exact encK_none (enc r) x.kids k (by rw [HL.out]; exact hkn) acc (by rw [← HY.out]; exact he2.out)
          go_wp2
          go_ret2
          exact ⟨.inr ⟨none, 0, 0, rfl, HN⟩, hb2'⟩
      · obtain rfl : nk = k := by omega
        have HE : Hid (innerBy (enc r) x = some acc) := by show _ = _; rw [hI.out, hE.out, encK_end _ _ _ (by rw [HL.out]; exact Nat.le_refl _)]
        go_wp2
        go_ret2
        exact ⟨.inl ⟨ao, m, c, acc, rfl, HE, hor.toRow, hor.nil⟩, hbr⟩

theorem headL_len (x : It) (n : Nat) (h : 0 ≤ x.tag ∧ x.tag ≤ 268435455) : (headL x n).length ≤ 14 := by
  unfold headL
  have := lenL_len n
  rw [List.length_append]
  split
  · simp; omega
  · have hpl : (putN x.tag.toNat).length ≤ 9 := by rw [putN, putL_len]; exact cnt_le _ (by omega)
    simp; omega

theorem enc_none (r : Nat) (x : It) (hs : x.shape = true) (h : innerBy (enc r) x = none) : enc (r + 1) x = none := by
  simp [enc, hs, h]
theorem enc_long (r : Nat) (x : It) (inner : List Int) (hs : x.shape = true) (h : innerBy (enc r) x = some inner) (hl : ¬ (headL x inner.length ++ inner).length ≤ 20000) : enc (r + 1) x = none := by
  simp only [enc, hs, h, if_true, if_neg hl]
theorem enc_some (r : Nat) (x : It) (inner : List Int) (hs : x.shape = true) (h : innerBy (enc r) x = some inner) (hl : (headL x inner.length ++ inner).length ≤ 20000) : enc (r + 1) x = some (headL x inner.length ++ inner) := by
  simp only [enc, hs, h, if_true, if_pos hl]
theorem enc_shape (r : Nat) (x : It) (hs : x.shape = false) : enc (r + 1) x = none := by
  simp [enc, hs]

set_option maxRecDepth 10000 in
set_option maxHeartbeats 2000000 in
theorem bytesAt_next (d : Nat) (ih : BytesAt d) : BytesAt (d + 1) := by
  intro r D x ab nb cb ak nk ck w hr hD hrow hnil hnb hk
  obtain ⟨i0, hi, hz0, hz1, hz2⟩ := info_parts Tryd.info5
  have HR : Hid (Row w ab nb x.body) := hrow
  have HK : Hid (Kids (d + 1) w ak nk x.kids) := hk
  have HL : Hid (x.kids.length = nk) := hk.1
  have hnk := hk.2.1
  have d1 : 0 ≤ D := by omega
  have d2 : D ≤ 13 := by omega
  have HD : Hid (D = 13 - (r : Int)) := hD
  clear hrow hk hD
  have hbl : Below w.heap.size w (w.alloc (.cells #[.int .i64 x.cls, .int .i64 x.tag, .bool x.cons, .slice ab nb cb, .slice ak nk ck] 26)) := (Below.refl _ _).alloc (Nat.le_refl _) _
  cases r with
  | zero =>
    have h12 : D > 12 := by have := HD.out; omega
    have HE : Hid (enc 0 x = none) := by show _ = _; rw [enc]
    unfold itv
    go_enter Tryd.func36, Tryd.ntmps36
    go_wp2
    go_ret2
    exact ⟨.inr ⟨rfl, HE⟩, hbl⟩
  | succ r =>
    have h12 : ¬ D > 12 := by have := HD.out; omega
    have kc : ∀ (W : World), Below (w.heap.size + 1) (w.alloc (.cells #[.int .i64 x.cls, .int .i64 x.tag, .bool x.cons, .slice ab nb cb, .slice ak nk ck] 26)) W → W.heap[w.heap.size]? = some (.cells #[.int .i64 x.cls, .int .i64 x.tag, .bool x.cons, .slice ab nb cb, .slice ak nk ck] 26 (0, 0)) := fun W hW => (hW.block w.heap.size (by omega)).trans (heap_alloc_new w _)
    unfold itv
    go_enter Tryd.func36, Tryd.ntmps36
    go_wp2_with fail
    refine (shapeOk_any x ab nb cb ak nk ck _ HR.out.len HL.out).mono ?_
    rintro e w1 ⟨rfl, hb1⟩
    have hb1' : Below w.heap.size w w1 := hbl.trans (hb1.mono hbl.size)
    have KC : Hid (_) := kc
    have e1 := kc w1 (hb1.mono (by simp))
    have hs1 := hb1.size
    simp at hs1
    clear kc
    obtain ⟨sh, hsh⟩ : ∃ sh, sh = x.shape := ⟨_, rfl⟩
    have HSH : Hid (sh = x.shape) := hsh
    rw [← hsh]
    clear hsh
    cases sh with
    | false =>
      have HE : Hid (enc (r + 1) x = none) := by show _ = _; exact enc_shape r x HSH.out.symm
      go_wp2
      go_ret2
      exact ⟨.inr ⟨rfl, HE⟩, hb1'⟩
    | true =>
      have c0 : w1.cell? ⟨w.heap.size, 0, none⟩ = some (.int .i64 x.cls) := (cell_of_row _ w.heap.size 0 _ 26 (0, 0) e1).trans rfl
      have c1 : w1.cell? ⟨w.heap.size, 1, none⟩ = some (.int .i64 x.tag) := (cell_of_row _ w.heap.size 1 _ 26 (0, 0) e1).trans rfl
      have c2 : w1.cell? ⟨w.heap.size, 2, none⟩ = some (.bool x.cons) := (cell_of_row _ w.heap.size 2 _ 26 (0, 0) e1).trans rfl
      have c3 : w1.cell? ⟨w.heap.size, 3, none⟩ = some (.slice ab nb cb) := (cell_of_row _ w.heap.size 3 _ 26 (0, 0) e1).trans rfl
      have c4 : w1.cell? ⟨w.heap.size, 4, none⟩ = some (.slice ak nk ck) := (cell_of_row _ w.heap.size 4 _ 26 (0, 0) e1).trans rfl
      have E1 : Hid (_ = _) := e1
      clear e1
      go_wp2_with fail
      refine (innerBytes_any d ih r D x ab nb cb ak nk ck _ (by omega) (by have := HD.out; omega) (HR.out.kept hb1') hnil hnb (HK.out.kept hb1')).mono ?_
      rintro e w2 ⟨hans, hb2⟩
      have e2 := heap_kept hb2 (by omega) E1.out
      have hb2' : Below w.heap.size w w2 := hb1'.trans (hb2.mono hb1'.size)
      have hs2 := hb2.size
      clear c0 c1 c2 c3 c4 hb1
      rcases hans with ⟨a3, n3, c3', inner, rfl, hin, hr3, hn3⟩ | ⟨a3, n3, c3', rfl, hin⟩
      · have c0 : w2.cell? ⟨w.heap.size, 0, none⟩ = some (.int .i64 x.cls) := (cell_of_row _ w.heap.size 0 _ 26 (0, 0) e2).trans rfl
        have c1 : w2.cell? ⟨w.heap.size, 1, none⟩ = some (.int .i64 x.tag) := (cell_of_row _ w.heap.size 1 _ 26 (0, 0) e2).trans rfl
        have c2 : w2.cell? ⟨w.heap.size, 2, none⟩ = some (.bool x.cons) := (cell_of_row _ w.heap.size 2 _ 26 (0, 0) e2).trans rfl
        have c3 : w2.cell? ⟨w.heap.size, 3, none⟩ = some (.slice ab nb cb) := (cell_of_row _ w.heap.size 3 _ 26 (0, 0) e2).trans rfl
        have c4 : w2.cell? ⟨w.heap.size, 4, none⟩ = some (.slice ak nk ck) := (cell_of_row _ w.heap.size 4 _ 26 (0, 0) e2).trans rfl
        have hil : n3 ≤ 20000 := by rw [← hr3.len]; exact innerBy_len _ _ _ hin.out
        have hsb := shape_bounds HSH.out.symm
        have LI : Hid (inner.length = n3) := hr3.len
        clear e2
        go_wp2_with fail
        refine (itemHead_any x ab nb cb ak nk ck n3 _ hsb.1 hsb.2 (by omega)).mono ?_
        rintro e w3 ⟨a4, c4', rfl, ho4, hb3⟩
        have hh := headL_len x n3 hsb.2
        obtain ⟨hd, hhd⟩ : ∃ hd, hd = headL x n3 := ⟨_, rfl⟩
        have HHD : Hid (hd = headL x n3) := hhd
        rw [← hhd] at ho4 hh ⊢
        clear hhd hsb c0 c1 c2 c3 c4
        obtain ⟨nh, hnh⟩ : ∃ nh, nh = hd.length := ⟨_, rfl⟩
        have HNH : Hid (nh = hd.length) := hnh
        rw [← hnh] at ho4 hh ⊢
        clear hnh
        have hb3' : Below w.heap.size w w3 := hb2'.trans (hb3.mono hb2'.size)
        have hr4 := hr3.kept hb3
        have hs3 := hb2'.size
        have hs3' := hb3'.size
        have ho4' := ho4.mono hs3
        have hll : Hid ((headL x inner.length ++ inner).length = nh + n3) := by show _ = _; rw [List.length_append, LI.out, ← HHD.out, ← HNH.out]
        by_cases hlong : nh + n3 ≤ 20000
        · have h3 : ¬ (nh : Int) + (n3 : Int) > 20000 := by omega
          have HE : Hid (enc (r + 1) x = some (hd ++ inner)) := by
            show _ = _
            rw [enc_some r x inner HSH.out.symm hin.out (by rw [hll.out]; exact hlong), LI.out, ← HHD.out]
          go_wp2_with (at_builtin; refine wpList_append_row _ rfl (.tmp 27) (.tmp 28) 22 rfl w.heap.size i0 Tryd.underlying22 hi hz0 hz1 hz2 _ _ _ rfl ho4'.row a3 n3 c3' inner rfl hr4 hn3 (by omega) hs3' ?_; intro v5 w5 hv5 hg5; obtain ⟨a5, c5, rfl, ho5⟩ := own_appended (xs := hd) (ys := inner) hv5 ho4'.byte hr4.byte; have hb5 : Below w.heap.size w w5 := below_appended hb3' hs3' ho4'.row hg5)
          go_ret2
          exact ⟨.inl ⟨a5, _, c5, _, rfl, HE, ho5⟩, hb5⟩
        · have h3 : (nh : Int) + (n3 : Int) > 20000 := by omega
          have HE : Hid (enc (r + 1) x = none) := by show _ = _; exact enc_long r x inner HSH.out.symm hin.out (by rw [hll.out]; exact hlong)
          go_wp2_with (at_builtin; refine wpList_append_row _ rfl (.tmp 27) (.tmp 28) 22 rfl w.heap.size i0 Tryd.underlying22 hi hz0 hz1 hz2 _ _ _ rfl ho4'.row a3 n3 c3' inner rfl hr4 hn3 (by omega) hs3' ?_; intro v5 w5 hv5 hg5; obtain ⟨a5, c5, rfl, ho5⟩ := own_appended (xs := hd) (ys := inner) hv5 ho4'.byte hr4.byte; have hb5 : Below w.heap.size w w5 := below_appended hb3' hs3' ho4'.row hg5)
          go_ret2
          exact ⟨.inr ⟨rfl, HE⟩, hb5⟩
      · have HE : Hid (enc (r + 1) x = none) := by show _ = _; exact enc_none r x HSH.out.symm hin.out
        go_wp2
        go_ret2
        exact ⟨.inr ⟨rfl, HE⟩, hb2'⟩

theorem bytesAt_all (d : Nat) : BytesAt d := by
  induction d with
  | zero => intro r D x ab nb cb ak nk ck w _ _ _ _ _ h; exact h.elim
  | succ d ih => exact bytesAt_next d ih

end Go.Proofs.YtjkkokjojaknkaaDoor
