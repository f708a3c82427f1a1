import Derived.Test.YtjkkokjojaknkaaDoorDI3
import Derived.Test.YtjkkokjojaknkaaDoorRP0
import Derived.Test.YtjkkokjojaknkaaDoorG08
namespace Go.Proofs.YtjkkokjojaknkaaDoor
open Go.RowKit

/-! Items with tags that are tags, and what their bytes weigh at most. -/
def Tame : Nat → It → Prop
  | 0, x => (0 ≤ x.cls ∧ x.cls ≤ 3) ∧ 0 ≤ x.tag ∧ x.tag ≤ 268435455
  | d + 1, x => ((0 ≤ x.cls ∧ x.cls ≤ 3) ∧ 0 ≤ x.tag ∧ x.tag ≤ 268435455) ∧ ∀ k, k < x.kids.length → Tame d (x.kids.getD k default)
theorem Tame.self {d : Nat} {x : It} (h : Tame d x) : (0 ≤ x.cls ∧ x.cls ≤ 3) ∧ 0 ≤ x.tag ∧ x.tag ≤ 268435455 := by
  cases d with
  | zero => exact h
  | succ d => exact h.1
theorem kidsD_get (f : Nat → It × Nat) (P : It → Prop) (hf : ∀ q, P (f q).1) : ∀ (k q j : Nat), j < (kidsD f k q).1.length → P ((kidsD f k q).1.getD j default) := by
  intro k
  induction k with
  | zero => intro q j h; cases h
  | succ k ih =>
    intro q j h
    cases j with
    | zero => exact hf q
    | succ j => exact ih _ j (by simpa [kidsD] using h)
theorem drw_tame (bs : List Int) : ∀ (l d p : Nat), Tame d (drw bs l p).1 := by
  intro l
  induction l with
  | zero =>
    intro d p
    have h1 := dTag_in bs p
    have h2 : dCls bs p < 4 := bwV_lt bs 4 p (by decide)
    have h0 : (0 ≤ (dCls bs p : Int) ∧ (dCls bs p : Int) ≤ 3) ∧ 0 ≤ dTag bs p ∧ dTag bs p ≤ 268435455 := ⟨by omega, h1.1, h1.2.1⟩
    cases d with
    | zero => exact h0
    | succ d => exact ⟨h0, fun k hk => by cases hk⟩
  | succ l ih =>
    intro d p
    have h1 := dTag_in bs p
    have h2 : dCls bs p < 4 := bwV_lt bs 4 p (by decide)
    have h0 : (0 ≤ (dCls bs p : Int) ∧ (dCls bs p : Int) ≤ 3) ∧ 0 ≤ dTag bs p ∧ dTag bs p ≤ 268435455 := ⟨by omega, h1.1, h1.2.1⟩
    by_cases hc : cdV bs (l + 1) (dPos0 bs p) = true
    · rw [drw_box bs l p hc]
      cases d with
      | zero => exact h0
      | succ d => exact ⟨h0, fun k hk => kidsD_get (drw bs l) (Tame d) (fun q => ih d q) _ _ k hk⟩
    · rw [drw_leaf bs (l + 1) p (by simpa using hc)]
      cases d with
      | zero => exact h0
      | succ d => exact ⟨h0, fun k hk => by cases hk⟩
theorem deepI_tame : ∀ k d, Tame d (deepI k) := by
  intro k
  induction k with
  | zero =>
    intro d
    cases d with
    | zero => exact ⟨by decide, by decide, by decide⟩
    | succ d => exact ⟨⟨by decide, by decide, by decide⟩, fun k hk => by cases hk⟩
  | succ k ih =>
    intro d
    have h0 : (0 ≤ (deepI (k + 1)).cls ∧ (deepI (k + 1)).cls ≤ 3) ∧ 0 ≤ (deepI (k + 1)).tag ∧ (deepI (k + 1)).tag ≤ 268435455 := by
      show ((0 : Int) ≤ 2 ∧ (2 : Int) ≤ 3) ∧ (0 : Int) ≤ 0 ∧ (0 : Int) ≤ 268435455
      decide
    cases d with
    | zero => exact h0
    | succ d =>
      refine ⟨h0, fun j hj => ?_⟩
      have hj1 : j < [deepI k].length := hj
      have : j = 0 := by simpa using hj1
      subst this
      exact ih d

/-- Where the tag of a head ends. -/
theorem head_tag (x : It) (m : Nat) (h1 : 0 ≤ x.cls ∧ x.cls ≤ 3) (h2 : 0 ≤ x.tag ∧ x.tag ≤ 268435455) :
    1 ≤ (tagL x).length ∧ (tagL x).length + 1 ≤ (headL x m).length ∧ (0 ≤ (headL x m).getD 0 0 ∧ (headL x m).getD 0 0 ≤ 255)
      ∧ ((headL x m).getD 0 0 % 32 = 31 → 2 ≤ (tagL x).length ∧ (∀ i, 1 ≤ i → i + 1 < (tagL x).length → ¬ (headL x m).getD i 0 < 128) ∧ (headL x m).getD ((tagL x).length - 1) 0 < 128)
      ∧ (¬ (headL x m).getD 0 0 % 32 = 31 → (tagL x).length = 1) := by
  have hf := tagL_first x
  have e : ∀ i, i < (tagL x).length → (headL x m).getD i 0 = (tagL x).getD i 0 := fun i hi => by rw [headL_tag, getD_app, if_pos hi]
  have hl : (headL x m).length = (tagL x).length + (lenL m).length := by rw [headL_tag, List.length_append]
  have hlp : 1 ≤ (lenL m).length := by unfold lenL; (repeat' split) <;> simp
  have e0 := (e 0 hf.2).trans hf.1
  have hfo : firstOf x.cls x.cons = 64 * x.cls + (if x.cons = true then 32 else 0) := by unfold firstOf; split <;> omega
  rw [e0]
  by_cases ht : x.tag < 31
  · have el : tagL x = [firstOf x.cls x.cons + x.tag] := if_pos ht
    have hT : (tagL x).length = 1 := by rw [el]; rfl
    rw [if_pos ht, hfo]
    refine ⟨by omega, by omega, by split <;> omega, fun h => absurd h (by split <;> omega), fun _ => hT⟩
  · have el : tagL x = (firstOf x.cls x.cons + 31) :: putN x.tag.toNat := if_neg ht
    have hc := cnt_ok x.tag.toNat
    have hp := hc.pos
    have hpl : (putN x.tag.toNat).length = cnt x.tag.toNat := by rw [putN, putL_len]
    have hT : (tagL x).length = cnt x.tag.toNat + 1 := by rw [el, List.length_cons, hpl]
    have eg : ∀ j, j < cnt x.tag.toNat → (headL x m).getD (j + 1) 0 = grp x.tag.toNat (cnt x.tag.toNat) j := fun j hj => by
      rw [e (j + 1) (by omega), el, ← putN_get _ _ hj]; rfl
    rw [if_neg ht, hfo]
    refine ⟨by omega, by omega, by split <;> omega, fun _ => ⟨by omega, fun i hi1 hi2 => ?_, ?_⟩, fun h => absurd h (by split <;> omega)⟩
    · obtain ⟨j, rfl⟩ : ∃ j, i = j + 1 := ⟨i - 1, by omega⟩
      rw [eg j (by omega)]
      unfold grp
      rw [if_neg (by omega)]
      omega
    · rw [hT, show cnt x.tag.toNat + 1 - 1 = (cnt x.tag.toNat - 1) + 1 by omega, eg _ (by omega)]
      unfold grp
      rw [if_pos (by omega)]
      omega

end Go.Proofs.YtjkkokjojaknkaaDoor

namespace Go.Proofs.YtjkkokjojaknkaaDoor
open Go.RowKit

/-! spec.l2Bytes of an item that may be too long or too deep: what it weighs. -/
def BytesW (d : Nat) : Prop := ∀ (x : It) (ab : Option Addr) (nb cb : Nat) (ak : Option Addr) (nk ck : Nat) (w : World), Tame d x → nb + wtS d x.kids ≤ 60000 → Row w ab nb x.body → (ab = none → cb = 0) → Kids d w ak nk x.kids →
    Calls Tryd.prog 49 #[itv x ab nb cb ak nk ck] w fun e w' => ∃ a k cap l, e = .returned (.slice a k cap) ∧ k ≤ 16 * (1 + nb + wtS d x.kids) ∧ Own w.heap.size w' a k cap l ∧ Below w.heap.size w w'

set_option maxRecDepth 10000 in
set_option maxHeartbeats 2000000 in
theorem bytesW_next (d : Nat) (ih : BytesW d) : BytesW (d + 1) := by
  intro x ab nb cb ak nk ck w htm hwt hrow hnil hk
  obtain ⟨i0, hi, hz0, hz1, hz2⟩ := info_parts Tryd.info5
  have hnb : nb ≤ 60000 := by omega
  have hsb := htm.self
  have HTM : Hid (Tame (d + 1) x) := htm
  have HWT : Hid (wtS (d + 1) x.kids = x.kids.length + wtP d x.kids x.kids.length) := wtS_succ d x.kids
  have HWE : ∀ k, k ≤ x.kids.length → wtP d x.kids k ≤ wtP d x.kids x.kids.length := fun k _ => wtP_le d x.kids k
  have HWB : Hid (nb + wtS (d + 1) x.kids ≤ 60000) := hwt
  clear htm hwt
  have HR : Hid (Row w ab nb x.body) := hrow
  have HK : Hid (Kids (d + 1) w ak nk x.kids) := hk
  have HL : Hid (x.kids.length = nk) := hk.1
  have hnk := hk.2.1
  have hbl : Below w.heap.size w (w.alloc (.cells #[.int .i64 x.cls, .int .i64 x.tag, .bool x.cons, .slice ab nb cb, .slice ak nk ck] 26)) := (Below.refl _ _).alloc (Nat.le_refl _) _
  have hB1 : Below w.heap.size w ((w.alloc (.cells #[.int .i64 x.cls, .int .i64 x.tag, .bool x.cons, .slice ab nb cb, .slice ak nk ck] 26)).alloc (.cells #[] 5)) := hbl.alloc hbl.size _
  have HO : Hid (Own (w.heap.size + 1) ((w.alloc (.cells #[.int .i64 x.cls, .int .i64 x.tag, .bool x.cons, .slice ab nb cb, .slice ak nk ck] 26)).alloc (.cells #[] 5)) (some ⟨w.heap.size + 1, 0, none⟩) 0 0 []) := own_zero _ _ _ (by simp) (by simp)
  have BX0 : Hid (_) := boxT_new 26 w x ab nb cb ak nk ck
  clear hrow hk
  unfold itv
  go_enter Tryd.func49, Tryd.ntmps49
  go_wp2_with (at_builtin; refine wpList_append_row _ rfl (.tmp 5) (.tmp 7) 22 rfl (w.heap.size + 1) i0 Tryd.underlying22 hi hz0 hz1 hz2 _ _ _ rfl HO.out.row ab nb cb x.body rfl (HR.out.kept hB1) hnil (by omega) (by simp) ?_; intro v1 w1 hv1 hg1; obtain ⟨a1, c1, rfl, ho1⟩ := own_appended (xs := []) (ys := x.body) hv1 HO.out.byte HR.out.byte; have hb1 : Below w.heap.size w w1 := below_appended hB1 hB1.size (HO.out.mono (by omega)).row hg1; have hx1 : BoxT 26 w.heap.size w1 x ab nb cb ak nk ck := ⟨(hg1.block w.heap.size (by simp; omega) (by show some w.heap.size ≠ some (w.heap.size + 1); simp)).trans ((alloc_old _ _ _ (by simp)).trans BX0.out.heap)⟩)
  have ho1' : Own (w.heap.size + 1) w1 a1 nb c1 x.body := by simpa using ho1
  go_loopw [3, 4] (fun o i wr => ∃ (k m c : Nat) (ao : Option Addr) (acc : List Int), k ≤ nk ∧ i = .int .i64 k ∧ o = .slice ao m c ∧ Own (w.heap.size + 1) wr ao m c acc ∧ Hid (m ≤ nb + 16 * (k + wtP d x.kids k)) ∧ BoxT 26 w.heap.size wr x ab nb cb ak nk ck ∧ Below w.heap.size w wr) (fun _ i _ => nk - (intOf i).toNat)
  case atStart => exact ⟨0, nb, c1, a1, x.body, Nat.zero_le _, rfl, rfl, ho1', Nat.le_add_right _ _, hx1, hb1⟩
  case round =>
    obtain ⟨k, m, c, ao, acc, hk, rfl, rfl, hor, hm, hbx, hbr⟩ := hrel
    obtain ⟨x0, x1, x2, x3, x4⟩ := hbx.cells
    have BX : Hid (BoxT 26 w.heap.size wr x ab nb cb ak nk ck) := hbx
    clear hbx
    have hs := hbr.size
    have hm1 : m ≤ 1000000 := by have h1 := hm.out; have h2 := HWE k (by rw [HL.out]; exact hk); have h3 := HWT.out; have h4 := HWB.out; have h5 := HL.out; omega
    by_cases hkn : k < nk
    · obtain ⟨b, off, rfl, hlb, ab1, nb1, cb1, ak1, nk1, ck1, c0, c1', c2, c3, c4, hr1, hn1, hm1, hk1⟩ := HK.out.2.2 k hkn
      have hty : Tame d (x.kids.getD k default) := HTM.out.2 k (by rw [HL.out]; exact hkn)
      have hwn := wtP_next d x.kids k (by rw [HL.out]; exact hkn)
      have hwl := HWE (k + 1) (by rw [HL.out]; omega)
      have HM : Hid (m ≤ nb + 16 * (k + wtP d x.kids k)) := hm
      clear hm
      obtain ⟨y, hy⟩ : ∃ y, y = x.kids.getD k default := ⟨_, rfl⟩
      rw [← hy] at c0 c1' c2 hr1 hk1 hty hwn
      have hly := hr1.len
      have HQ : Hid (1 + nb1 + wtS d y.kids + wtP d x.kids k = 1 + wtP d x.kids (k + 1)) := by show _ = _; omega
      have HQ2 : Hid (nb1 + wtS d y.kids ≤ 60000) := by show _ ≤ _; have h3 := HWT.out; have h4 := HWB.out; omega
      clear hwn hwl hly
      have cc : ∀ j, wr.cell? ⟨b, j, none⟩ = w.cell? ⟨b, j, none⟩ := fun j => hbr.cell (p := ⟨b, j, none⟩) hlb
      rw [← cc] at c0 c1' c2 c3 c4
      have hkni : (k : Int) < (nk : Int) := by omega
      have hla := hor.length
      have R1 : Hid (_) := hr1.kept hbr
      have K1 : Hid (_) := hk1.kept hbr
      have HTY : Hid (Tame d y) := hty
      clear cc hy hr1 hk1 hty hla
      go_wp2_with fail
      refine (ih y ab1 nb1 cb1 ak1 nk1 ck1 _ HTY.out HQ2.out R1.out hn1 K1.out).mono ?_
      rintro e w2 ⟨a2, q, c2', p, rfl, hql, ho2, hb2⟩
      have hpl : m + q ≤ 2000000 := by have := HQ2.out; omega
      have HQL : Hid (m + q ≤ nb + 16 * ((k + 1) + wtP d x.kids (k + 1))) := by show _ ≤ _; have h1 := HQ.out; have h2 := HM.out; omega
      clear hql
      have hb2' : Below w.heap.size w w2 := hbr.trans (hb2.mono hs)
      have hor2 := hor.kept hb2
      have ho2' := ho2.mono hs
      have BX2 : Hid (_) := BX.out.kept hb2
      go_wp2_with (at_builtin; refine wpList_append_row _ rfl (.tmp 16) (.tmp 22) 22 rfl (w.heap.size + 1) i0 Tryd.underlying22 hi hz0 hz1 hz2 _ _ _ rfl hor2.row a2 q c2' p rfl ho2.toRow ho2.nil (by omega) (by have := BX.out.lt; have := hb2.size; omega) ?_; intro v3 w3 hv3 hg3)
      obtain ⟨a3, c3', rfl, ho3⟩ := own_appended (xs := acc) (ys := p) hv3 hor2.byte ho2.byte
      have hb3 : Below w.heap.size w w3 := below_appended hb2' hb2'.size (hor2.mono (by omega)).row hg3
      have hlt2 := BX2.out.lt
      have hx3 : BoxT 26 w.heap.size w3 x ab nb cb (some ⟨b, off, none⟩) nk ck := ⟨(hg3.block w.heap.size hlt2 (fun e => by have := (hor2.row.lt _ e.symm).1; omega)).trans BX2.out.heap⟩
      have FIN : Hid (_ ∧ _) := ⟨ho3, hx3⟩
      clear ho3 hx3 hv3 hg3
      go_wp2
      go_roundw
      case rel => exact ⟨k + 1, m + q, c3', a3, acc ++ p, by omega, by go_num, rfl, FIN.out.1, HQL, FIN.out.2, hb3⟩
      case measure => simp [intOf]; omega
    · obtain rfl : nk = k := by omega
      have HM : Hid (16 + m ≤ 16 * (1 + nb + wtS (d + 1) x.kids)) := by show _ ≤ _; have h1 := hm.out; have h3 := HWT.out; have h5 := HL.out; rw [h5] at h3; omega
      clear hm
      go_wp2_with fail
      refine (l2Head_any x ab nb cb ak nk ck m _ hsb.1 hsb.2 (by omega)).mono ?_
      rintro e w3 ⟨a3, c3, rfl, ho3, hb3⟩
      have hb3' : Below w.heap.size w w3 := hbr.trans (hb3.mono hs)
      have hor3 := hor.kept hb3
      have hla := hor.length
      have hh := headL_len x m hsb.2
      obtain ⟨hd, hhd⟩ : ∃ hd, hd = headL x m := ⟨_, rfl⟩
      rw [← hhd] at ho3 hh ⊢
      obtain ⟨nh, hnh⟩ : ∃ nh, nh = hd.length := ⟨_, rfl⟩
      rw [← hnh] at ho3 hh ⊢
      have ho3' := ho3.mono hs
      clear hhd hnh hla
      go_wp2_with (at_builtin; refine wpList_append_row _ rfl (.tmp 27) (.tmp 28) 22 rfl w.heap.size i0 Tryd.underlying22 hi hz0 hz1 hz2 _ _ _ rfl ho3'.row ao m c acc rfl hor3.toRow hor3.nil (by omega) hb3'.size ?_; intro v5 w5 hv5 hg5; obtain ⟨a5, c5, rfl, ho5⟩ := own_appended (xs := hd) (ys := acc) hv5 ho3'.byte hor3.byte; have hb5 : Below w.heap.size w w5 := below_appended hb3' hb3'.size ho3'.row hg5)
      go_ret
      exact ⟨a5, nh + m, c5, _, rfl, by have := HM.out; omega, ho5, hb5⟩

theorem bytesW_all (d : Nat) : BytesW d := by
  induction d with
  | zero => intro x ab nb cb ak nk ck w _ _ _ _ h; exact h.elim
  | succ d ih => exact bytesW_next d ih

end Go.Proofs.YtjkkokjojaknkaaDoor
