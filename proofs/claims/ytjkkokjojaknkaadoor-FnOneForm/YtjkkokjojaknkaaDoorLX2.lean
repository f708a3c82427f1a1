import Derived.Test.YtjkkokjojaknkaaDoorG06
import Derived.Test.YtjkkokjojaknkaaDoorG07
import Derived.Test.YtjkkokjojaknkaaDoorRR3
import Derived.Deep.RegionHeldLaw
import Derived.BigRegion
import Derived.Deep.DeepCutAuto
import Derived.Deep.RegionWith
namespace Go.Proofs.YtjkkokjojaknkaaDoor
open Go.RowKit

theorem own_capX {B : Nat} {w : World} {a : Option Addr} {n cap : Nat} {bs : List Int} (h : Own B w a n cap bs) : n ≤ cap := by
  rcases h.row.2 with ⟨hv, h0⟩ | ⟨g, cap', cur, hv, hb, hg, hle, _⟩
  · omega
  · simp only [Value.slice.injEq] at hv; omega
theorem RdPost.belowX {w w1 w2 : World} {g : Nat} {a : Option Addr} {n cap : Nat} {bs : List Int} (h : RdPost w g a n cap bs w1) (hb : Below w1.heap.size w1 w2) : RdPost w g a n cap bs w2 :=
  ⟨h.1.kept hb, h.2.trans (Touch.of_below hb)⟩
theorem step_append_rowX {P : Program} {ops : Array Oper} {o : Oper} {a : Act} {w : World} {K : Act → World → Prop} {Q : Exit → Act → World → Prop} {E : Prop}
    (hg : o.guard = none) (s x : Operand) (t : TypeId) (hop : o.op = Op.call { callee := Callee.builtin Builtin.append, args := #[s, x], argTypes := #[t, t] })
    (base : Nat) (i : TypeInfo) (h1 : P.underlying t = some (.slice 5)) (h2 : P.info? 5 = some i) (h3 : i.zero = some (.int .u8 0)) (h4 : i.size = 1) (h5 : i.bytes = 1)
    (v : Value) (n : Nat) (xs : List Value) (hs : a.eval s = v) (hown : w.ownsRow base 5 1 v n xs)
    (ao : Option Addr) (m c : Nat) (ys : List Int) (hx : a.eval x = .slice ao m c) (hrow : Row w ao m ys) (hnil : ao = none → c = 0)
    (b1 : n + m ≤ 140737488355328) (b3 : base ≤ w.heap.size)
    (hK : ∀ v' w', w'.ownsRow base 5 1 v' (n + m) (xs ++ ys.map (Value.int .u8)) → w.grownBy w' v.ownBlock → K (a.put o.dst v') w') :
    if Region.wanted o (yielded ops a.tmps) = true then Oper.wp P o a w K Q else E := by
  have hw : Region.wanted o (yielded ops a.tmps) = true := by simp [Region.wanted, hg]
  rw [if_pos hw]
  cases ao with
  | some ad =>
    obtain ⟨v', w', hrun, r1, r2, _⟩ := run_append_own (P := P) w base t o.type 5 i (.int .u8 0) 1 1 h1 h2 h3 h4 h5 rfl (by decide) v n xs hown ad m c (ys.map (Value.int .u8)) (by rw [List.length_map, hrow.len, Nat.mul_one]) (row_cells hrow) (ints_oneCell _ _) (by unfold maxLen; omega) (by omega) b3
    unfold Oper.wp
    simp [execOp, hop, resolve, invoke, builtin, hs, hx, hrun, Result.andThen]
    exact hK v' w' r1 r2
  | none =>
    obtain ⟨rfl, rfl⟩ := row_none hrow
    obtain rfl := hnil rfl
    have hrun := run_append_owned_none (P := P) (w := w) base t o.type 5 i 1 h1 h2 v n xs hown
    unfold Oper.wp
    simp [execOp, hop, resolve, invoke, builtin, hs, hx, hrun, Result.andThen]
    exact hK v w (by simpa using hown) (World.grownBy.refl _ _)
theorem own_two (B : Nat) (w : World) (h : B ≤ w.heap.size) (x y : Int) (hx : 0 ≤ x ∧ x ≤ 255) (hy : 0 ≤ y ∧ y ≤ 255) : Own B (w.alloc (.cells #[.int .u8 x, .int .u8 y] 5)) (some ⟨w.heap.size, 0, none⟩) 2 2 [x, y] :=
  ⟨World.ownsRow_lit w #[.int .u8 x, .int .u8 y] 2 h (by decide) rfl, fun k => by match k with | 0 => simpa using hx | 1 => simpa using hy | k + 2 => simp⟩
theorem own_five (B : Nat) (w : World) (h : B ≤ w.heap.size) (x0 x1 x2 x3 x4 : Int) (h0 : 0 ≤ x0 ∧ x0 ≤ 255) (h1 : 0 ≤ x1 ∧ x1 ≤ 255) (h2 : 0 ≤ x2 ∧ x2 ≤ 255) (h3 : 0 ≤ x3 ∧ x3 ≤ 255) (h4 : 0 ≤ x4 ∧ x4 ≤ 255) : Own B (w.alloc (.cells #[.int .u8 x0, .int .u8 x1, .int .u8 x2, .int .u8 x3, .int .u8 x4] 5)) (some ⟨w.heap.size, 0, none⟩) 5 5 [x0, x1, x2, x3, x4] :=
  ⟨World.ownsRow_lit w #[.int .u8 x0, .int .u8 x1, .int .u8 x2, .int .u8 x3, .int .u8 x4] 5 h (by decide) rfl, fun k => by match k with | 0 => simpa using h0 | 1 => simpa using h1 | 2 => simpa using h2 | 3 => simpa using h3 | 4 => simpa using h4 | k + 5 => simp⟩
theorem or31 (x : Int) (h0 : 0 ≤ x) (h1 : x ≤ 255) : 0 ≤ bits .or .u8 x 31 ∧ bits .or .u8 x 31 ≤ 255 := by
  have key : ∀ k : Fin 256, 0 ≤ bits .or .u8 ((k.val : Nat) : Int) 31 ∧ bits .or .u8 ((k.val : Nat) : Int) 31 ≤ 255 := by decide +kernel
  have := key ⟨x.toNat, by omega⟩
  rwa [Int.toNat_of_nonneg h0] at this
theorem wrap_u8_in (x : Int) : 0 ≤ IntKind.u8.wrap x ∧ IntKind.u8.wrap x ≤ 255 := by rw [IntKind.wrap_u8]; omega
/-- Bytes of a carelessly written item: what they weigh at most. -/
def LaxQ (w : World) (g : Nat) (a : Option Addr) (n cap : Nat) (bs : List Int) (m : Nat) (e : Ending) (w' : World) : Prop :=
  ∃ a' k c' l, e = .returned (.slice a' k c') ∧ k ≤ m ∧ Own w.heap.size w' a' k c' l ∧ RdPost w g a n cap bs w'
def LaxW (g : Nat) (a : Option Addr) (n cap : Nat) (bs : List Int) (d : Nat) : Prop := ∀ (x : It) (ab : Option Addr) (nb cb : Nat) (ak : Option Addr) (nk ck lo M top : Nat) (w : World), Rd w g a n cap bs → g < lo → lo ≤ M → M ≤ top → top ≤ w.heap.size → Tame d x → nb + wtS d x.kids ≤ 60000 → OwnB lo M w ab nb cb x.body → OwnKids d M top w ak nk x.kids →
    Calls Tryd.prog 70 #[.pointer (some ⟨g, 0, none⟩), itv x ab nb cb ak nk ck] w fun e w' => LaxQ w g a n cap bs (40 * (1 + nb + wtS d x.kids)) e w'

/-- What lies there once the head is made. -/
structure LxS (w W : World) (g : Nat) (a : Option Addr) (n cap : Nat) (bs : List Int) (x : It) (ab : Option Addr) (nb cb : Nat) (ak : Option Addr) (nk ck : Nat) (K1 K2 : Nat) (ao : Option Addr) (m c : Nat) (acc : List Int) (gh nh ch : Nat) (hd : List Int) : Prop where
  rd : RdPost w g a n cap bs W
  gw : g < w.heap.size
  box : BoxT 26 w.heap.size W x ab nb cb ak nk ck
  k0 : w.heap.size + 1 ≤ K1
  k1 : K1 ≤ K2
  k2 : K2 ≤ W.heap.size
  body : OwnB (w.heap.size + 1) K1 W ao m c acc
  head : OwnB K1 K2 W (some ⟨gh, 0, none⟩) nh ch hd
theorem LxS.on {w W W' : World} {g : Nat} {a : Option Addr} {n cap : Nat} {bs : List Int} {x : It} {ab : Option Addr} {nb cb : Nat} {ak : Option Addr} {nk ck : Nat} {K1 K2 : Nat} {ao : Option Addr} {m c : Nat} {acc : List Int} {gh nh ch : Nat} {hd : List Int} (h : LxS w W g a n cap bs x ab nb cb ak nk ck K1 K2 ao m c acc gh nh ch hd) (hb : Below W.heap.size W W') : LxS w W' g a n cap bs x ab nb cb ak nk ck K1 K2 ao m c acc gh nh ch hd :=
  ⟨h.rd.belowX hb, h.gw, h.box.kept hb, h.k0, h.k1, Nat.le_trans h.k2 hb.size, h.body.kept hb, h.head.kept hb⟩
/-- Behind a drawing. -/
theorem LxS.drawn {w W W' : World} {g : Nat} {a : Option Addr} {n cap : Nat} {bs : List Int} {x : It} {ab : Option Addr} {nb cb : Nat} {ak : Option Addr} {nk ck : Nat} {K1 K2 : Nat} {ao : Option Addr} {m c : Nat} {acc : List Int} {gh nh ch : Nat} {hd : List Int} (h : LxS w W g a n cap bs x ab nb cb ak nk ck K1 K2 ao m c acc gh nh ch hd) (hr : RdPost W g a n cap bs W') : LxS w W' g a n cap bs x ab nb cb ak nk ck K1 K2 ao m c acc gh nh ch hd := by
  have h1 := h.gw
  have h2 := h.k0
  have h3 := h.k1
  exact ⟨h.rd.step hr, h.gw, h.box.touch (.inr (by omega)) hr.2, h.k0, h.k1, Nat.le_trans h.k2 hr.2.size, h.body.touch (.inr (by omega)) hr.2, h.head.touch (.inr (by omega)) hr.2⟩
/-- Behind what grows from K2 on. -/
theorem LxS.grown {w W W' : World} {g : Nat} {a : Option Addr} {n cap : Nat} {bs : List Int} {x : It} {ab : Option Addr} {nb cb : Nat} {ak : Option Addr} {nk ck : Nat} {K1 K2 : Nat} {ao : Option Addr} {m c : Nat} {acc : List Int} {gh nh ch : Nat} {hd : List Int} (h : LxS w W g a n cap bs x ab nb cb ak nk ck K1 K2 ao m c acc gh nh ch hd) {lo hi : Nat} (t : Touch lo hi W W') (hl : K2 ≤ lo) : LxS w W' g a n cap bs x ab nb cb ak nk ck K1 K2 ao m c acc gh nh ch hd := by
  have h1 := h.gw
  have h2 := h.k0
  have h3 := h.k1
  exact ⟨h.rd.grown t (by omega) (by omega), h.gw, h.box.touch (.inl (by omega)) t, h.k0, h.k1, Nat.le_trans h.k2 t.size, h.body.touch (.inl (by omega)) t, h.head.touch (.inl (by omega)) t⟩
theorem LxS.done {w W : World} {g : Nat} {a : Option Addr} {n cap : Nat} {bs : List Int} {x : It} {ab : Option Addr} {nb cb : Nat} {ak : Option Addr} {nk ck : Nat} {K1 K2 : Nat} {ao : Option Addr} {m c : Nat} {acc : List Int} {gh nh ch : Nat} {hd : List Int} (h : LxS w W g a n cap bs x ab nb cb ak nk ck K1 K2 ao m c acc gh nh ch hd) {a' : Option Addr} {k c' : Nat} {l : List Int} (ho : Own K2 W a' k c' l) {M : Nat} (hk : k ≤ M) : LaxQ w g a n cap bs M (.returned (.slice a' k c')) W :=
  ⟨a', k, c', l, rfl, hk, ho.mono (by have := h.k0; have := h.k1; omega), h.rd⟩

set_option maxRecDepth 10000 in
set_option maxHeartbeats 20000000 in
theorem laxW_next (g : Nat) (a : Option Addr) (n cap : Nat) (bs : List Int) (d : Nat) (ih : LaxW g a n cap bs d) : LaxW g a n cap bs (d + 1) := by
  intro x ab nb cb ak nk ck lo M top w hrd hg hlM hMh hhw htm hwt hob hok
  obtain ⟨i0, hi, hz0, hz1, hz2⟩ := info_parts Tryd.info5
  have hnb : nb ≤ 60000 := by omega
  have hsb := htm.self
  have HTM : Hid (Tame (d + 1) x) := htm
  have HWT : Hid (wtS (d + 1) x.kids = x.kids.length + wtP d x.kids x.kids.length) := wtS_succ d x.kids
  have HWE : ∀ k, k ≤ x.kids.length → wtP d x.kids k ≤ wtP d x.kids x.kids.length := fun k _ => wtP_le d x.kids k
  have HWB : Hid (nb + wtS (d + 1) x.kids ≤ 60000) := hwt
  have HB : Hid (OwnB lo M w ab nb cb x.body) := hob
  have HK : Hid (OwnKids (d + 1) M top w ak nk x.kids) := hok
  have HL : Hid (x.kids.length = nk) := hok.1
  have hnk := hok.2.1
  have hbl : Below w.heap.size w (w.alloc (.cells #[.int .i64 x.cls, .int .i64 x.tag, .bool x.cons, .slice ab nb cb, .slice ak nk ck] 26)) := (Below.refl _ _).alloc (Nat.le_refl _) _
  have hB1 : Below w.heap.size w ((w.alloc (.cells #[.int .i64 x.cls, .int .i64 x.tag, .bool x.cons, .slice ab nb cb, .slice ak nk ck] 26)).alloc (.cells #[] 5)) := hbl.alloc hbl.size _
  have HO : Hid (Own (w.heap.size + 1) ((w.alloc (.cells #[.int .i64 x.cls, .int .i64 x.tag, .bool x.cons, .slice ab nb cb, .slice ak nk ck] 26)).alloc (.cells #[] 5)) (some ⟨w.heap.size + 1, 0, none⟩) 0 0 []) := own_zero _ _ _ (by simp) (by simp)
  have BX0 : Hid (_) := boxT_new 26 w x ab nb cb ak nk ck
  have HRD : Hid (Rd w g a n cap bs) := hrd
  have hgw : g < w.heap.size := hrd.lt
  have hsz1 : ((w.alloc (.cells #[.int .i64 x.cls, .int .i64 x.tag, .bool x.cons, .slice ab nb cb, .slice ak nk ck] 26)).alloc (.cells #[] 5)).heap.size = w.heap.size + 1 + 1 := by simp
  obtain ⟨MX, hMX⟩ : ∃ MX, MX = 40 * (1 + nb + wtS (d + 1) x.kids) := ⟨_, rfl⟩
  rw [← hMX]
  have HMX : Hid (MX = 40 * (1 + nb + wtS (d + 1) x.kids)) := hMX
  clear hob hok hrd htm hwt hMX
  unfold itv
  go_enter Tryd.func70, Tryd.ntmps70
  go_wp2_with (at_builtin; refine wpList_append_row _ rfl (.tmp 11) (.tmp 13) 22 rfl (w.heap.size + 1) i0 Tryd.underlying22 hi hz0 hz1 hz2 _ _ _ rfl HO.out.row ab nb cb x.body rfl (HB.out.own.toRow.kept hB1) HB.out.own.nil (by omega) (by simp) ?_; intro v1 w1 hv1 hg1; obtain ⟨a1, c1, rfl, ho1⟩ := own_appended (xs := []) (ys := x.body) hv1 HO.out.byte HB.out.own.byte; have hb1 : Below w.heap.size w w1 := below_appended hB1 hB1.size (HO.out.mono (by omega)).row hg1; have hx1 : BoxT 26 w.heap.size w1 x ab nb cb ak nk ck := ⟨(hg1.block w.heap.size (by simp; omega) (by show some w.heap.size ≠ some (w.heap.size + 1); simp)).trans ((alloc_old _ _ _ (by simp)).trans BX0.out.heap)⟩)
  have ho1' : Own (w.heap.size + 1) w1 a1 nb c1 x.body := by simpa using ho1
  have hr1 : RdPost w g a n cap bs w1 := ⟨HRD.out.kept hb1, Touch.of_below hb1⟩
  clear hv1 hg1 ho1
  go_loopw [5, 6] (fun o i wr => ∃ (k m c : Nat) (ao : Option Addr) (acc : List Int), k ≤ nk ∧ i = .int .i64 k ∧ o = .slice ao m c ∧ Own (w.heap.size + 1) wr ao m c acc ∧ Hid (m ≤ nb + 40 * (k + wtP d x.kids k)) ∧ BoxT 26 w.heap.size wr x ab nb cb ak nk ck ∧ RdPost w g a n cap bs wr) (fun _ i _ => nk - (intOf i).toNat)
  case atStart => exact ⟨0, nb, c1, a1, x.body, Nat.zero_le _, rfl, rfl, ho1', Nat.le_add_right _ _, hx1, hr1⟩
  case round =>
    obtain ⟨k, m, c, ao, acc, hk, rfl, rfl, hor, hm, hbx, hrr⟩ := hrel
    obtain ⟨x0, x1, x2, x3, x4⟩ := hbx.cells
    have BX : Hid (BoxT 26 w.heap.size wr x ab nb cb ak nk ck) := hbx
    have HRR : Hid (RdPost w g a n cap bs wr) := hrr
    have hs := hrr.2.size
    clear hbx hrr
    have hm1 : m ≤ 3000000 := by have h1 := hm.out; have h2 := HWE k (by rw [HL.out]; exact hk); have h3 := HWT.out; have h4 := HWB.out; have h5 := HL.out; omega
    by_cases hkn : k < nk
    · obtain ⟨gk, capk, vsk, rfl, hgk1, hgk2, hrowk, L, H, p1, p2, p3⟩ : ∃ gk capk vsk, ak = some ⟨gk, 0, none⟩ ∧ M ≤ gk ∧ gk < top ∧ w.ownsRow M 26 5 (.slice ak nk capk) nk vsk ∧ OwnPre (OwnKids d) M top w gk nk x.kids := by
        rcases HK.out.2.2 with h0 | h1
        · omega
        · exact h1
      obtain ⟨ab1, nb1, cb1, ak1, nk1, ck1, M1, c0, c1', c2, c3, c4, hm11, hm12, hob1, hok1⟩ := p3 k hkn
      have p1k := p1 k hkn
      clear hrowk p1 p2 p3
      have hty : Tame d (x.kids.getD k default) := HTM.out.2 k (by rw [HL.out]; exact hkn)
      have hwn := wtP_next d x.kids k (by rw [HL.out]; exact hkn)
      have hwl := HWE (k + 1) (by rw [HL.out]; omega)
      have HM : Hid (m ≤ nb + 40 * (k + wtP d x.kids k)) := hm
      clear hm
      obtain ⟨y, hy⟩ : ∃ y, y = x.kids.getD k default := ⟨_, rfl⟩
      rw [← hy] at c0 c1' c2 hob1 hok1 hty hwn
      have hly := hob1.own.length
      have HQ : Hid (1 + nb1 + wtS d y.kids + wtP d x.kids k = 1 + wtP d x.kids (k + 1)) := by show _ = _; omega
      have HQ2 : Hid (nb1 + wtS d y.kids ≤ 60000) := by show _ ≤ _; have h3 := HWT.out; have h4 := HWB.out; omega
      clear hwn hwl hly
      have hblk := HRR.out.2.block gk (by omega) (.inr (by omega))
      have cc : ∀ j, wr.cell? ⟨gk, j, none⟩ = w.cell? ⟨gk, j, none⟩ := fun j => World.cell?_of_block (a := ⟨gk, j, none⟩) hblk
      rw [← cc] at c0 c1' c2 c3 c4
      have hkni : (k : Int) < (nk : Int) := by omega
      have B1 : Hid (_) := hob1.touch (.inr (by omega)) HRR.out.2
      have K1 : Hid (_) := ownKids_moves d _ _ _ _ _ _ _ _ _ hok1 (.inr (by omega)) HRR.out.2
      have HTY : Hid (Tame d y) := hty
      clear cc hy hob1 hok1 hty hblk
      go_wp2_with fail
      refine (ih y ab1 nb1 cb1 ak1 nk1 ck1 (L k) M1 (H k) wr HRR.out.1 (by omega) hm11 hm12 (by omega) HTY.out HQ2.out B1.out K1.out).mono ?_
      rintro e w2 ⟨a2, q, c2', p, rfl, hql, ho2, hr2⟩
      have hpl : m + q ≤ 6000000 := by have := HQ2.out; omega
      have HQL : Hid (m + q ≤ nb + 40 * ((k + 1) + wtP d x.kids (k + 1))) := by show _ ≤ _; have h1 := HQ.out; have h2 := HM.out; omega
      have hs2 := hr2.2.size
      have hor2 := hor.touched hr2.2 (by omega)
      have BX2 : Hid (_) := BX.out.touch (.inr (by omega)) hr2.2
      have HR2 : Hid (RdPost w g a n cap bs w2) := HRR.out.step hr2
      clear hql hr2
      go_wp2_with (at_builtin; refine wpList_append_row _ rfl (.tmp 22) (.tmp 29) 22 rfl (w.heap.size + 1) i0 Tryd.underlying22 hi hz0 hz1 hz2 _ _ _ rfl hor2.row a2 q c2' p rfl ho2.toRow ho2.nil (by omega) (by have := BX.out.lt; omega) ?_; intro v3 w3 hv3 hg3)
      obtain ⟨a3, c3', rfl, ho3⟩ := own_appended (xs := acc) (ys := p) hv3 hor2.byte ho2.byte
      have t3 := touch_grown hg3 (fun l hl => hor2.row.lt l hl)
      have FIN : Hid (_ ∧ _ ∧ _) := ⟨ho3, BX2.out.touch (.inl (by omega)) t3, RdPost.grown HR2.out t3 (by omega) (by omega)⟩
      clear ho3 hv3 hg3 t3
      go_wp2
      go_roundw
      case rel => exact ⟨k + 1, m + q, c3', a3, acc ++ p, by omega, by go_num, rfl, FIN.out.1, HQL, FIN.out.2.1, FIN.out.2.2⟩
      case measure => simp [intOf]; omega
    · obtain rfl : nk = k := by omega
      have HM : Hid (40 + m ≤ MX) := by show _ ≤ _; have h0 := HMX.out; have h1 := hm.out; have h3 := HWT.out; have h5 := HL.out; rw [h5] at h3; omega
      clear hm
      go_wp2_with fail
      refine (l2Head_any x ab nb cb ak nk ck m _ hsb.1 hsb.2 (by omega)).mono ?_
      rintro e w3 ⟨a3, c3, rfl, ho3, hb3⟩
      have hh := headL_len x m hsb.2
      have ht := head_tag x m hsb.1 hsb.2
      obtain ⟨hd, hhd⟩ : ∃ hd, hd = headL x m := ⟨_, rfl⟩
      rw [← hhd] at ho3 hh ht ⊢
      obtain ⟨T, hT⟩ : ∃ T, T = (tagL x).length := ⟨_, rfl⟩
      rw [← hT] at ht
      obtain ⟨nh, hnh⟩ : ∃ nh, nh = hd.length := ⟨_, rfl⟩
      rw [← hnh] at ho3 hh ht ⊢
      obtain ⟨ht1, ht2, ht3, ht4, ht5⟩ := ht
      obtain ⟨gh, rfl⟩ : ∃ gh, a3 = some ⟨gh, 0, none⟩ := ho3.shape (by omega)
      have S3 : LxS w w3 g a n cap bs x ab nb cb ak nk ck wr.heap.size w3.heap.size ao m c acc gh nh c3 hd :=
        ⟨HRR.out.belowX hb3, hgw, BX.out.kept hb3, BX.out.lt, hb3.size, Nat.le_refl _, hor.ownB.kept hb3, ho3.ownB⟩
      obtain ⟨K1, hK1⟩ : ∃ K1, K1 = wr.heap.size := ⟨_, rfl⟩
      obtain ⟨K2, hK2⟩ : ∃ K2, K2 = w3.heap.size := ⟨_, rfl⟩
      have hK2' : Hid (w3.heap.size = K2) := hK2.symm
      rw [← hK1, ← hK2] at S3
      have HS3 : Hid (_) := S3
      clear hhd hT hnh hK1 hK2 S3 ho3 hb3 hor BX HRR HWE
      obtain ⟨v0, hv0⟩ : ∃ v0, v0 = hd.getD 0 0 := ⟨_, rfl⟩
      rw [← hv0] at ht3 ht4 ht5
      have CH : ∀ i, i < nh → w3.cell? ⟨gh, i, none⟩ = some (.int .u8 (hd.getD i 0)) := by
        intro i hi
        obtain ⟨b, off, ha, _, hc⟩ := HS3.out.head.own.toRow.get i hi
        cases ha
        simpa using hc
      have ch0 : w3.cell? ⟨gh, 0, none⟩ = some (.int .u8 v0) := by rw [hv0]; exact CH 0 (by omega)
      have a31 := and31 v0 ht3.1 ht3.2
      have HV0 : Hid (v0 = hd.getD 0 0) := hv0
      have hTc : nh ≤ c3 := own_capX HS3.out.head.own
      clear hv0
      go_upto_if 39 with fail
      obtain ⟨b31, hb31⟩ : ∃ b31, b31 = (v0 % 32 == 31) := ⟨_, rfl⟩
      have HB31 : Hid (b31 = (v0 % 32 == 31)) := hb31
      rw [← hb31]
      clear hb31
      go_cut [8] (fun t wx => ∃ q : Nat, t = .int .i64 (q : Int) ∧ Hid (q = T ∧ w3 = wx))
      case first =>
        cases b31 with
        | true =>
          have h31 : v0 % 32 = 31 := by have := HB31.out; simpa using this.symm
          obtain ⟨hT2, hlow, hend⟩ := ht4 h31
          clear ht4 ht5 h31 a31
          go_wp2_with fail
          go_loopw [8] (fun t wr => ∃ i : Nat, 1 ≤ i ∧ i + 1 ≤ T ∧ t = .int .i64 i ∧ w3 = wr) (fun t _ => T - (intOf t).toNat)
          case atStart => exact ⟨1, by omega, by omega, rfl, rfl⟩
          case round =>
            obtain ⟨i, hi1, hi2, rfl, rfl⟩ := hrel
            have ci := CH i (by omega)
            have hini : (i : Int) < (nh : Int) := by omega
            obtain ⟨vi, hvi⟩ : ∃ vi, vi = hd.getD i 0 := ⟨_, rfl⟩
            rw [← hvi] at ci
            by_cases he : i + 1 = T
            · have hv : ¬ 128 ≤ vi := by rw [hvi, show i = T - 1 by omega]; omega
              have hvb : decide (128 ≤ vi) = false := by simp; omega
              have hvc : decide (vi < 128) = true := by simp; omega
              clear hvi
              go_wp2_with fail
              go_meet
              exact ⟨T, by go_num, ⟨rfl, rfl⟩⟩
            · have hv : 128 ≤ vi := by have := hlow i hi1 (by omega); rw [hvi]; omega
              have hvb : decide (128 ≤ vi) = true := by simp; omega
              have hvc : decide (vi < 128) = false := by simp; omega
              clear hvi
              go_wp2_with fail
              go_roundw
              case rel => exact ⟨i + 1, by omega, by omega, by go_num, trivial⟩
              case measure => simp [intOf]; omega
        | false =>
          have h31 : ¬ v0 % 32 = 31 := by have := HB31.out; simpa using this.symm
          have h1T := ht5 h31
          clear ht4 ht5 h31 a31
          go_wp2_with fail
          go_meet
          exact ⟨T, by go_num, ⟨rfl, rfl⟩⟩
      case rest =>
      obtain ⟨q, rfl, hq⟩ := hcut
      clear HB31
      obtain ⟨h1, h2⟩ := hq.out
      have h1' := h1.symm
      subst h1'
      subst h2
      clear hq
      clear ht4 ht5 a31
      have HZ0 : Hid (Own w3.heap.size (w3.alloc (.cells #[] 5)) (some ⟨w3.heap.size, 0, none⟩) 0 0 []) := own_zero _ _ _ rfl (Nat.le_refl _)
      have hal : Below w3.heap.size w3 (w3.alloc (.cells #[] 5)) := (Below.refl _ _).alloc (Nat.le_refl _) _
      have HT : Hid (Row (w3.alloc (.cells #[] 5)) (some ⟨gh, 0, none⟩) T (hd.take T)) := (HS3.out.head.own.toRow.take T (by omega)).kept hal
      have hTc2 : T ≤ c3 := by omega
      go_wp2_with (at_builtin; refine wpList_append_row _ rfl (.tmp 49) (.tmp 52) 22 rfl w3.heap.size i0 Tryd.underlying22 hi hz0 hz1 hz2 _ _ _ rfl HZ0.out.row (some ⟨gh, 0, none⟩) T _ (hd.take T) rfl HT.out (by intro h; cases h) (by omega) (by simp) ?_; intro v5 w5 hv5 hg5)
      obtain ⟨a5, c5, rfl, ho5⟩ := own_appended (xs := []) (ys := hd.take T) hv5 HZ0.out.byte HT.out.byte
      have hb5 : Below w3.heap.size w3 w5 := below_appended hal hal.size HZ0.out.row hg5
      rw [Nat.zero_add, hK2'.out] at ho5
      have S5 := HS3.out.on hb5
      clear hv5 hg5 hb5 hal
      go_wp2_with fail
      refine (once_any g a n cap bs 4 _ S5.rd.1 (by decide) (by decide)).mono ?_
      rintro e w6 ⟨v6, rfl, hr6⟩
      have HS6 : Hid (_) := S5.drawn hr6
      have HO6 : Hid (Own K2 w6 a5 T c5 ([] ++ hd.take T)) := ho5.touched hr6.2 (by have := S5.gw; have := S5.k0; have := S5.k1; omega)
      have hT15 : T ≤ 14 := by omega
      clear hr6 S5 ho5 HS3 HZ0 HT ch0 CH
      go_upto_if 55 with fail
      go_cut [9] (fun o wx => ∃ (a9 : Option Addr) (n9 c9 : Nat) (l9 : List Int), o = .slice a9 n9 c9 ∧ 1 ≤ n9 ∧ n9 ≤ 15 ∧ Hid (Own K2 wx a9 n9 c9 l9) ∧ Hid (LxS w wx g a n cap bs x ab nb cb ak nk ck K1 K2 ao m c acc gh nh c3 hd))
      case first =>
        cases v6 with
        | false =>
          go_wp2_with fail
          go_meet
          exact ⟨_, _, _, _, rfl, ht1, by omega, HO6, HS6⟩
        | true =>
          go_upto_if 57 with fail
          go_cut [9] (fun o wx => ∃ (a9 : Option Addr) (n9 c9 : Nat) (l9 : List Int), o = .slice a9 n9 c9 ∧ 2 ≤ n9 ∧ n9 ≤ 14 ∧ Hid (Own K2 wx a9 n9 c9 l9) ∧ Hid (LxS w wx g a n cap bs x ab nb cb ak nk ck K1 K2 ao m c acc gh nh c3 hd))
          case first =>
            by_cases hT1 : T = 1
            · subst hT1
              have ctag := HS6.out.box.cells.2.1
              have ch0 : w6.cell? ⟨gh, 0, none⟩ = some (.int .u8 v0) := by
                obtain ⟨b, off, ha, _, hc⟩ := HS6.out.head.own.toRow.get 0 (by omega)
                cases ha
                rw [HV0.out]
                simpa using hc
              have o31 := or31 v0 ht3.1 ht3.2
              go_upto_region 15 with fail
              go_region
              all_goals
                have hal : Below w6.heap.size w6 (w6.alloc (.cells #[.int .u8 (bits .or .u8 v0 31), .int .u8 (x.tag % 256)] 5)).drew := ((Below.refl _ _).alloc (Nat.le_refl _) _).drew
                have HF : Hid (_ ∧ _) := ⟨(own_two K2 w6 HS6.out.k2 (bits .or .u8 v0 31) (x.tag % 256) o31 (by omega)).drew, HS6.out.on hal⟩
                clear hal o31
                go_wp2_with fail
                go_meet
                exact ⟨_, 2, 2, _, rfl, by omega, by omega, HF.out.1, HF.out.2⟩
            · have hTb : ((T : Int) == 1) = false := by simp; omega
              go_wp2_with fail
              go_meet
              exact ⟨_, _, _, _, rfl, by omega, by omega, HO6, HS6⟩
          case rest =>
          obtain ⟨a9, n9, c9, l9, rfl, h91, h92, HO7, HS7⟩ := hcut
          go_wp2_with fail
          refine (once_any g a n cap bs 2 _ HS7.out.rd.1 (by decide) (by decide)).mono ?_
          rintro e w8 ⟨v8, rfl, hr8⟩
          have HS8 : Hid (_) := HS7.out.drawn hr8
          have HO8 : Hid (Own K2 w8 a9 n9 c9 l9) := HO7.out.touched hr8.2 (by have := HS7.out.gw; have := HS7.out.k0; have := HS7.out.k1; omega)
          clear hr8 HS7 HO7
          cases v8 with
          | false =>
            go_wp2_with fail
            go_meet
            exact ⟨_, _, _, _, rfl, by omega, by omega, HO8, HS8⟩
          | true =>
            obtain ⟨g9, rfl⟩ : ∃ g9, a9 = some ⟨g9, 0, none⟩ := HO8.out.shape (by omega)
            obtain ⟨v9, hv9⟩ : ∃ v9, v9 = l9.getD 0 0 := ⟨_, rfl⟩
            have c90 : w8.cell? ⟨g9, 0, none⟩ = some (.int .u8 v9) := by
              obtain ⟨b, off, ha, _, hc⟩ := HO8.out.toRow.get 0 (by omega)
              cases ha
              rw [hv9]
              simpa using hc
            have hv9r : 0 ≤ v9 ∧ v9 ≤ 255 := by rw [hv9]; exact HO8.out.byte 0
            have g9lt := HO8.out.base.2
            have hc9 : n9 ≤ c9 := own_capX HO8.out
            have hc91 : ¬ c9 = 1 := by omega
            have hal : Below w8.heap.size w8 (w8.alloc (.cells #[.int .u8 v9, .int .u8 128] 5)).drew := ((Below.refl _ _).alloc (Nat.le_refl _) _).drew
            have HLT : Hid (Own w8.heap.size ((w8.alloc (.cells #[.int .u8 v9, .int .u8 128] 5)).drew) (some ⟨w8.heap.size, 0, none⟩) 2 2 [v9, 128]) := (own_two w8.heap.size w8 (Nat.le_refl _) v9 128 hv9r (by decide)).drew
            have HRW : Hid (Row ((w8.alloc (.cells #[.int .u8 v9, .int .u8 128] 5)).drew) (some ⟨g9, 1, none⟩) (n9 - 1) (l9.drop 1)) := by
              have h1 := (HO8.out.toRow.drop 1 (by omega)).kept hal
              exact h1
            have cL : ((w8.alloc (.cells #[.int .u8 v9, .int .u8 128] 5)).drew).cell? ⟨g9, 0, none⟩ = some (.int .u8 v9) := (hal.cell (p := ⟨g9, 0, none⟩) g9lt).trans c90
            clear hv9
            go_upto_region 17 with fail
            go_region_held_law (fun w' => w'.cell? ⟨g9, 0, none⟩ = some (.int .u8 v9)) (first | assumption | (simp [go_sem]; assumption))
              (first | (refine step_append_rowX rfl (.tmp 71) (.tmp 73) 22 rfl w8.heap.size i0 Tryd.underlying22 hi hz0 hz1 hz2 _ _ _ rfl HLT.out.row _ _ _ (l9.drop 1) rfl HRW.out (by intro h; cases h) (by omega) (by have := hal.size; omega) ?_; intro v5 w5 hv5 hg5; have hS5 : w5.cell? ⟨g9, 0, none⟩ = some (.int .u8 v9) := ((below_appended hal hal.size HLT.out.row hg5).cell (p := ⟨g9, 0, none⟩) g9lt).trans c90; obtain ⟨a5x, c5x, rfl, ho5x⟩ := own_appended (xs := [v9, 128]) (ys := l9.drop 1) hv5 HLT.out.byte HRW.out.byte; have HF : Hid (_ ∧ _) := ⟨ho5x.mono HS8.out.k2, HS8.out.on (below_appended hal hal.size HLT.out.row hg5)⟩; clear hv5 hg5 ho5x))
            all_goals
              simp only [List.getElem_toArray, List.getElem_cons_succ, List.getElem_cons_zero, List.set_cons_succ, List.set_cons_zero]
              go_wp2_with fail
              go_meet
              exact ⟨a5x, 2 + (n9 - 1), c5x, _, rfl, by omega, by omega, HF.out.1, HF.out.2⟩
      case rest =>
      obtain ⟨a9, n9, c9, l9, rfl, h91, h92, HO9, HS9⟩ := hcut
      clear HO6 HS6
      go_wp2_with fail
      refine (below_any g a n cap bs 4 _ HS9.out.rd.1 (by decide)).mono ?_
      rintro e wA ⟨vA, rfl, hvA0, hvA1, hrA⟩
      have HSA : Hid (_) := HS9.out.drawn hrA
      have HOA : Hid (Own K2 wA a9 n9 c9 l9) := HO9.out.touched hrA.2 (by have := HS9.out.gw; have := HS9.out.k0; have := HS9.out.k1; omega)
      clear hrA HS9 HO9
      have ccon := HSA.out.box.cells.2.2.1
      have hm2 := hm1
      by_cases hA0 : vA = 0
      · subst hA0
        cases hco : x.cons with
        | true =>
          rw [hco] at ccon
          go_wp2_with (first | (at_builtin; (have hal1 : Below wA.heap.size wA (wA.alloc (.cells #[.int .u8 128] 5)) := ((Below.refl _ _).alloc (Nat.le_refl _) _); have HSa1 : Hid (_) := HSA.out.on hal1; have HOa1 : Hid (_) := HOA.out.kept hal1; have HRa1 : Hid (Own wA.heap.size (wA.alloc (.cells #[.int .u8 128] 5)) (some ⟨wA.heap.size, 0, none⟩) 1 1 _) := own_one _ _ _ rfl (Nat.le_refl _) 128 (by decide); refine wpList_append_row _ rfl (.tmp 81) (.tmp 82) 22 rfl K2 i0 Tryd.underlying22 hi hz0 hz1 hz2 _ _ _ rfl HOa1.out.row (some ⟨wA.heap.size, 0, none⟩) 1 1 _ rfl HRa1.out.toRow (by intro h; cases h) (by omega) (HSa1.out.k2) ?_; intro vq2 wq2 hv2 hg2; obtain ⟨aq2, cq2, rfl, ho2⟩ := own_appended hv2 HOa1.out.byte HRa1.out.byte; have HOa2 : Hid (_) := ho2; have HSa2 : Hid (_) := HSa1.out.grown (touch_grown hg2 (fun l hl => HOa1.out.row.lt l hl)) (Nat.le_refl _); clear hv2 hg2 ho2)) | (at_builtin; (refine wpList_append_row _ rfl (.tmp 83) (.tmp 84) 22 rfl K2 i0 Tryd.underlying22 hi hz0 hz1 hz2 _ _ _ rfl HOa2.out.row ao m c _ rfl HSa2.out.body.own.toRow HSa2.out.body.own.nil (by omega) (HSa2.out.k2) ?_; intro vq3 wq3 hv3 hg3; obtain ⟨aq3, cq3, rfl, ho3⟩ := own_appended hv3 HOa2.out.byte HSa2.out.body.own.byte; have HOa3 : Hid (_) := ho3; have HSa3 : Hid (_) := HSa2.out.grown (touch_grown hg3 (fun l hl => HOa2.out.row.lt l hl)) (Nat.le_refl _); clear hv3 hg3 ho3)) | (at_builtin; (have hal4 : Below wq3.heap.size wq3 (wq3.alloc (.cells #[.int .u8 0, .int .u8 0] 5)) := ((Below.refl _ _).alloc (Nat.le_refl _) _); have HSa4 : Hid (_) := HSa3.out.on hal4; have HOa4 : Hid (_) := HOa3.out.kept hal4; have HRa4 : Hid (Own wq3.heap.size (wq3.alloc (.cells #[.int .u8 0, .int .u8 0] 5)) (some ⟨wq3.heap.size, 0, none⟩) 2 2 _) := own_two _ _ (Nat.le_refl _) 0 0 (by decide) (by decide); refine wpList_append_row _ rfl (.tmp 86) (.tmp 87) 22 rfl K2 i0 Tryd.underlying22 hi hz0 hz1 hz2 _ _ _ rfl HOa4.out.row (some ⟨wq3.heap.size, 0, none⟩) 2 2 _ rfl HRa4.out.toRow (by intro h; cases h) (by omega) (HSa4.out.k2) ?_; intro vq5 wq5 hv5 hg5; obtain ⟨aq5, cq5, rfl, ho5⟩ := own_appended hv5 HOa4.out.byte HRa4.out.byte; have HOa5 : Hid (_) := ho5; have HSa5 : Hid (_) := HSa4.out.grown (touch_grown hg5 (fun l hl => HOa4.out.row.lt l hl)) (Nat.le_refl _); clear hv5 hg5 ho5)))
          go_ret
          exact LxS.done HSa5.out HOa5.out (by have := HM.out; omega)
        | false =>
          rw [hco] at ccon
          have hTc3 : ¬ c3 = T := by omega
          have HRt : Hid (Row wA (some ⟨gh, T, none⟩) (nh - T) (hd.drop T)) := by
            have h1 := HSA.out.head.own.toRow.drop T (by omega)
            rw [Nat.zero_add] at h1
            exact h1
          go_wp2_with (first | (at_builtin; (refine wpList_append_row _ rfl (.tmp 109) (.tmp 112) 22 rfl K2 i0 Tryd.underlying22 hi hz0 hz1 hz2 _ _ _ rfl HOA.out.row (some ⟨gh, T, none⟩) (nh - T) _ _ rfl HRt.out (by intro h; cases h) (by omega) (HSA.out.k2) ?_; intro vq9 wq9 hv9 hg9; obtain ⟨aq9, cq9, rfl, ho9⟩ := own_appended hv9 HOA.out.byte HRt.out.byte; have HOa9 : Hid (_) := ho9; have HSa9 : Hid (_) := HSA.out.grown (touch_grown hg9 (fun l hl => HOA.out.row.lt l hl)) (Nat.le_refl _); clear hv9 hg9 ho9)) | (at_builtin; (refine wpList_append_row _ rfl (.tmp 113) (.tmp 114) 22 rfl K2 i0 Tryd.underlying22 hi hz0 hz1 hz2 _ _ _ rfl HOa9.out.row ao m c _ rfl HSa9.out.body.own.toRow HSa9.out.body.own.nil (by omega) (HSa9.out.k2) ?_; intro vq10 wq10 hv10 hg10; obtain ⟨aq10, cq10, rfl, ho10⟩ := own_appended hv10 HOa9.out.byte HSa9.out.body.own.byte; have HOa10 : Hid (_) := ho10; have HSa10 : Hid (_) := HSa9.out.grown (touch_grown hg10 (fun l hl => HOa9.out.row.lt l hl)) (Nat.le_refl _); clear hv10 hg10 ho10)))
          go_ret
          exact LxS.done HSa10.out HOa10.out (by have := HM.out; omega)
      · have hA0b : (vA == 0) = false := by simp [hA0]
        by_cases hA1 : vA = 1
        · subst hA1
          go_wp2_with (first | (at_builtin; (have hal6 : Below wA.heap.size wA (wA.alloc (.cells #[.int .u8 132, .int .u8 ((m : Int) / 16777216), .int .u8 ((m : Int) / 65536), .int .u8 ((m : Int) / 256 % 256), .int .u8 ((m : Int) % 256)] 5)) := ((Below.refl _ _).alloc (Nat.le_refl _) _); have HSa6 : Hid (_) := HSA.out.on hal6; have HOa6 : Hid (_) := HOA.out.kept hal6; have HRa6 : Hid (Own wA.heap.size (wA.alloc (.cells #[.int .u8 132, .int .u8 ((m : Int) / 16777216), .int .u8 ((m : Int) / 65536), .int .u8 ((m : Int) / 256 % 256), .int .u8 ((m : Int) % 256)] 5)) (some ⟨wA.heap.size, 0, none⟩) 5 5 _) := own_five _ _ (Nat.le_refl _) 132 ((m : Int) / 16777216) ((m : Int) / 65536) ((m : Int) / 256 % 256) ((m : Int) % 256) (by decide) (by omega) (by omega) (by omega) (by omega); refine wpList_append_row _ rfl (.tmp 93) (.tmp 105) 22 rfl K2 i0 Tryd.underlying22 hi hz0 hz1 hz2 _ _ _ rfl HOa6.out.row (some ⟨wA.heap.size, 0, none⟩) 5 5 _ rfl HRa6.out.toRow (by intro h; cases h) (by omega) (HSa6.out.k2) ?_; intro vq7 wq7 hv7 hg7; obtain ⟨aq7, cq7, rfl, ho7⟩ := own_appended hv7 HOa6.out.byte HRa6.out.byte; have HOa7 : Hid (_) := ho7; have HSa7 : Hid (_) := HSa6.out.grown (touch_grown hg7 (fun l hl => HOa6.out.row.lt l hl)) (Nat.le_refl _); clear hv7 hg7 ho7)) | (at_builtin; (refine wpList_append_row _ rfl (.tmp 106) (.tmp 107) 22 rfl K2 i0 Tryd.underlying22 hi hz0 hz1 hz2 _ _ _ rfl HOa7.out.row ao m c _ rfl HSa7.out.body.own.toRow HSa7.out.body.own.nil (by omega) (HSa7.out.k2) ?_; intro vq8 wq8 hv8 hg8; obtain ⟨aq8, cq8, rfl, ho8⟩ := own_appended hv8 HOa7.out.byte HSa7.out.body.own.byte; have HOa8 : Hid (_) := ho8; have HSa8 : Hid (_) := HSa7.out.grown (touch_grown hg8 (fun l hl => HOa7.out.row.lt l hl)) (Nat.le_refl _); clear hv8 hg8 ho8)))
          go_ret
          exact LxS.done HSa8.out HOa8.out (by have := HM.out; omega)
        · have hA1b : (vA == 1) = false := by simp [hA1]
          have hTc3 : ¬ c3 = T := by omega
          have HRt : Hid (Row wA (some ⟨gh, T, none⟩) (nh - T) (hd.drop T)) := by
            have h1 := HSA.out.head.own.toRow.drop T (by omega)
            rw [Nat.zero_add] at h1
            exact h1
          go_wp2_with (first | (at_builtin; (refine wpList_append_row _ rfl (.tmp 109) (.tmp 112) 22 rfl K2 i0 Tryd.underlying22 hi hz0 hz1 hz2 _ _ _ rfl HOA.out.row (some ⟨gh, T, none⟩) (nh - T) _ _ rfl HRt.out (by intro h; cases h) (by omega) (HSA.out.k2) ?_; intro vq11 wq11 hv11 hg11; obtain ⟨aq11, cq11, rfl, ho11⟩ := own_appended hv11 HOA.out.byte HRt.out.byte; have HOa11 : Hid (_) := ho11; have HSa11 : Hid (_) := HSA.out.grown (touch_grown hg11 (fun l hl => HOA.out.row.lt l hl)) (Nat.le_refl _); clear hv11 hg11 ho11)) | (at_builtin; (refine wpList_append_row _ rfl (.tmp 113) (.tmp 114) 22 rfl K2 i0 Tryd.underlying22 hi hz0 hz1 hz2 _ _ _ rfl HOa11.out.row ao m c _ rfl HSa11.out.body.own.toRow HSa11.out.body.own.nil (by omega) (HSa11.out.k2) ?_; intro vq12 wq12 hv12 hg12; obtain ⟨aq12, cq12, rfl, ho12⟩ := own_appended hv12 HOa11.out.byte HSa11.out.body.own.byte; have HOa12 : Hid (_) := ho12; have HSa12 : Hid (_) := HSa11.out.grown (touch_grown hg12 (fun l hl => HOa11.out.row.lt l hl)) (Nat.le_refl _); clear hv12 hg12 ho12)))
          go_ret
          exact LxS.done HSa12.out HOa12.out (by have := HM.out; omega)

end Go.Proofs.YtjkkokjojaknkaaDoor
