import Derived.Test.YtjkkokjojaknkaaDoorWItem12
namespace Go.Proofs.YtjkkokjojaknkaaDoor
open Go.RowKit

/-- A variable that holds an item: its type, its block. -/
structure BoxT (t g : Nat) (W : World) (x : It) (ab : Option Addr) (nb cb : Nat) (ak : Option Addr) (nk ck : Nat) : Prop where
  heap : W.heap[g]? = some (.cells #[.int .i64 x.cls, .int .i64 x.tag, .bool x.cons, .slice ab nb cb, .slice ak nk ck] t (0, 0))
theorem boxT_new (t : Nat) (w : World) (x : It) (ab : Option Addr) (nb cb : Nat) (ak : Option Addr) (nk ck : Nat) : BoxT t w.heap.size (w.alloc (.cells #[.int .i64 x.cls, .int .i64 x.tag, .bool x.cons, .slice ab nb cb, .slice ak nk ck] t)) x ab nb cb ak nk ck := ⟨heap_alloc_new w _⟩
theorem BoxT.kept {t g : Nat} {W W' : World} {x : It} {ab : Option Addr} {nb cb : Nat} {ak : Option Addr} {nk ck : Nat} (h : BoxT t g W x ab nb cb ak nk ck) (hb : Below W.heap.size W W') : BoxT t g W' x ab nb cb ak nk ck := ⟨(hb.block _ (Array.getElem?_eq_some_iff.1 h.heap).1).trans h.heap⟩
theorem BoxT.lt {t g : Nat} {W : World} {x : It} {ab : Option Addr} {nb cb : Nat} {ak : Option Addr} {nk ck : Nat} (h : BoxT t g W x ab nb cb ak nk ck) : g < W.heap.size := (Array.getElem?_eq_some_iff.1 h.heap).1
theorem BoxT.cells {t g : Nat} {W : World} {x : It} {ab : Option Addr} {nb cb : Nat} {ak : Option Addr} {nk ck : Nat} (h : BoxT t g W x ab nb cb ak nk ck) :
    W.cell? ⟨g, 0, none⟩ = some (.int .i64 x.cls) ∧ W.cell? ⟨g, 1, none⟩ = some (.int .i64 x.tag) ∧ W.cell? ⟨g, 2, none⟩ = some (.bool x.cons) ∧ W.cell? ⟨g, 3, none⟩ = some (.slice ab nb cb) ∧ W.cell? ⟨g, 4, none⟩ = some (.slice ak nk ck) :=
  ⟨(cell_of_row _ g 0 _ t (0, 0) h.heap).trans rfl, (cell_of_row _ g 1 _ t (0, 0) h.heap).trans rfl, (cell_of_row _ g 2 _ t (0, 0) h.heap).trans rfl, (cell_of_row _ g 3 _ t (0, 0) h.heap).trans rfl, (cell_of_row _ g 4 _ t (0, 0) h.heap).trans rfl⟩

theorem sizV_nonneg (o : Option (List Int)) : decide (sizV o ≥ 0) = o.isSome := by
  cases o with
  | none => rfl
  | some l => simp [sizV]

set_option maxRecDepth 10000 in
set_option maxHeartbeats 1000000 in
theorem specItemOk_any (d : Nat) (x : It) (ab : Option Addr) (nb cb : Nat) (ak : Option Addr) (nk ck : Nat) (w : World) (hrow : Row w ab nb x.body) (hnb : nb ≤ 1048576) (hk : Kids d w ak nk x.kids) (hwt : wtS d x.kids ≤ 1048576) :
    Calls Tryd.prog 11 #[itv x ab nb cb ak nk ck] w fun e w' => e = .returned (.bool (enc 12 x).isSome) ∧ Below w.heap.size w w' := by
  have hbl : Below w.heap.size w (w.alloc (.cells #[.int .i64 x.cls, .int .i64 x.tag, .bool x.cons, .slice ab nb cb, .slice ak nk ck] 26)) := (Below.refl _ _).alloc (Nat.le_refl _) _
  have HS : Hid (_) := sizeAt_all d 12 1 x ab nb cb ak nk ck _ (by decide) (by decide) (hrow.kept hbl) hnb (hk.kept hbl) hwt
  clear hrow hk hwt hnb
  unfold itv
  go_enter Tryd.func11, Tryd.ntmps11
  go_wp2_with fail
  refine Calls.mono HS.out ?_
  rintro e w1 ⟨rfl, hb1⟩
  have hb1' : Below w.heap.size w w1 := hbl.trans (hb1.mono hbl.size)
  have HV : Hid (_ = _) := sizV_nonneg (enc 12 x)
  obtain ⟨v, hv⟩ : ∃ v, v = sizV (enc 12 x) := ⟨_, rfl⟩
  have HW : Hid (v = sizV (enc 12 x)) := hv
  rw [← hv]
  clear hv hb1
  go_wp2
  go_ret
  exact ⟨by rw [← HV.out, ← HW.out]; rfl, hb1'⟩

set_option maxRecDepth 10000 in
set_option maxHeartbeats 1000000 in
theorem implItemBytes_any (d : Nat) (x : It) (ab : Option Addr) (nb cb : Nat) (ak : Option Addr) (nk ck : Nat) (w : World) (hrow : Row w ab nb x.body) (hnil : ab = none → cb = 0) (hnb : nb ≤ 9223372036854775807) (hk : Kids d w ak nk x.kids) :
    Calls Tryd.prog 10 #[itv x ab nb cb ak nk ck] w fun e w' => Ans w.heap.size (enc 12 x) e w' ∧ Below w.heap.size w w' := by
  have hbl : Below w.heap.size w (w.alloc (.cells #[.int .i64 x.cls, .int .i64 x.tag, .bool x.cons, .slice ab nb cb, .slice ak nk ck] 26)) := (Below.refl _ _).alloc (Nat.le_refl _) _
  have HS : Hid (_) := bytesAt_all d 12 1 x ab nb cb ak nk ck _ (by decide) (by decide) (hrow.kept hbl) hnil hnb (hk.kept hbl)
  clear hrow hk hnb hnil
  unfold itv
  go_enter Tryd.func10, Tryd.ntmps10
  go_wp2_with fail
  refine Calls.mono HS.out ?_
  rintro e w1 ⟨hans, hb1⟩
  have hb1' : Below w.heap.size w w1 := hbl.trans (hb1.mono hbl.size)
  clear hb1
  rcases hans with ⟨a2, n2, c2, bs2, rfl, he2, ho2⟩ | ⟨rfl, he2⟩
  · have HO : Hid (Own w.heap.size w1 a2 n2 c2 bs2) := ho2.mono hbl.size
    clear ho2
    go_wp2
    go_ret2
    exact ⟨.inl ⟨a2, n2, c2, bs2, rfl, he2, HO⟩, hb1'⟩
  · go_wp2
    go_ret2
    exact ⟨.inr ⟨rfl, he2⟩, hb1'⟩

set_option maxRecDepth 10000 in
set_option maxHeartbeats 1000000 in
theorem implItemOk_any (d : Nat) (x : It) (ab : Option Addr) (nb cb : Nat) (ak : Option Addr) (nk ck : Nat) (w : World) (hrow : Row w ab nb x.body) (hnil : ab = none → cb = 0) (hnb : nb ≤ 9223372036854775807) (hk : Kids d w ak nk x.kids) :
    Calls Tryd.prog 12 #[itv x ab nb cb ak nk ck] w fun e w' => e = .returned (.bool (enc 12 x).isSome) ∧ Below w.heap.size w w' := by
  have hbl : Below w.heap.size w (w.alloc (.cells #[.int .i64 x.cls, .int .i64 x.tag, .bool x.cons, .slice ab nb cb, .slice ak nk ck] 26)) := (Below.refl _ _).alloc (Nat.le_refl _) _
  have HS : Hid (_) := implItemBytes_any d x ab nb cb ak nk ck _ (hrow.kept hbl) hnil hnb (hk.kept hbl)
  clear hrow hk hnb hnil
  unfold itv
  go_enter Tryd.func12, Tryd.ntmps12
  go_wp2_with fail
  refine Calls.mono HS.out ?_
  rintro e w1 ⟨hans, hb1⟩
  have hb1' : Below w.heap.size w w1 := hbl.trans (hb1.mono hbl.size)
  clear hb1
  rcases hans with ⟨a2, n2, c2, bs2, rfl, he2, ho2⟩ | ⟨rfl, he2⟩
  · clear ho2
    go_wp2
    go_ret
    exact ⟨by rw [he2.out]; rfl, hb1'⟩
  · go_wp2
    go_ret
    exact ⟨by rw [he2.out]; rfl, hb1'⟩

end Go.Proofs.YtjkkokjojaknkaaDoor

namespace Go.Proofs.YtjkkokjojaknkaaDoor
open Go.RowKit

theorem encK_ge (f : It → Option (List Int)) (xs : List It) : ∀ acc l, encK f acc xs = some l → acc.length ≤ l.length := by
  induction xs with
  | nil => intro acc l e; simp [encK] at e; subst e; exact Nat.le_refl _
  | cons x xs ih =>
    intro acc l e
    simp only [encK] at e
    split at e
    · cases e
    · split at e
      · have := ih _ _ e
        rw [List.length_append] at this
        omega
      · cases e
theorem encK_step (f : It → Option (List Int)) (xs : List It) (k : Nat) (h : k < xs.length) (acc l : List Int) (e : encK f acc (xs.drop k) = some l) : ∃ p, f (xs.getD k default) = some p ∧ acc.length + p.length ≤ 20000 ∧ encK f (acc ++ p) (xs.drop (k + 1)) = some l := by
  rw [drop_get xs k h] at e
  simp only [encK] at e
  split at e
  · cases e
  · rename_i p hp
    split at e
    · exact ⟨p, hp, by assumption, e⟩
    · cases e
theorem enc_parts (r : Nat) (x : It) (l : List Int) (h : enc (r + 1) x = some l) : x.shape = true ∧ ∃ inner, inX r x = some inner ∧ l = headL x inner.length ++ inner ∧ l.length ≤ 20000 := by
  have hl := enc_len _ _ _ h
  cases hs : x.shape with
  | false => rw [enc_shape r x hs] at h; cases h
  | true =>
    refine ⟨rfl, ?_⟩
    cases hi : inX r x with
    | none => rw [enc_inX_none r x hs hi] at h; cases h
    | some inner =>
      refine ⟨inner, rfl, ?_, hl⟩
      by_cases hlong : (headL x inner.length ++ inner).length ≤ 20000
      · rw [enc_inX_some r x inner hs hi hlong] at h
        exact (Option.some.inj h).symm
      · rw [enc_inX_long r x inner hs hi hlong] at h; cases h

theorem own_zero (B : Nat) (w : World) (g : Nat) (hg : w.heap.size = g) (h : B ≤ w.heap.size) : Own B (w.alloc (.cells #[] 5)) (some ⟨g, 0, none⟩) 0 0 [] := by
  subst hg
  exact ⟨World.ownsRow_lit w #[] 0 h (by decide) rfl, by simp⟩

def SpecBytes (d : Nat) : Prop := ∀ (r : Nat) (x : It) (l : List Int) (ab : Option Addr) (nb cb : Nat) (ak : Option Addr) (nk ck : Nat) (w : World), enc r x = some l → Row w ab nb x.body → (ab = none → cb = 0) → Kids d w ak nk x.kids →
    Calls Tryd.prog 49 #[itv x ab nb cb ak nk ck] w fun e w' => ∃ a cap, e = .returned (.slice a l.length cap) ∧ Own w.heap.size w' a l.length cap l ∧ Below w.heap.size w w'

set_option maxRecDepth 10000 in
set_option maxHeartbeats 2000000 in
theorem specBytes_next (d : Nat) (ih : SpecBytes d) : SpecBytes (d + 1) := by
  intro r x l ab nb cb ak nk ck w henc hrow hnil hk
  obtain ⟨i0, hi, hz0, hz1, hz2⟩ := info_parts Tryd.info5
  cases r with
  | zero => simp [enc] at henc
  | succ r =>
    obtain ⟨hsh, inner, hin, hl, hl2⟩ := enc_parts r x l henc
    have hge := encK_ge _ _ _ _ hin
    have hil : inner.length ≤ 20000 := by rw [hl, List.length_append] at hl2; omega
    have hnb : nb ≤ 20000 := by rw [hrow.len] at hge; omega
    have HR : Hid (Row w ab nb x.body) := hrow
    have HK : Hid (Kids (d + 1) w ak nk x.kids) := hk
    have HL : Hid (x.kids.length = nk) := hk.1
    have hnk := hk.2.1
    have HI : Hid (encK (enc r) x.body (x.kids.drop 0) = some inner) := by show _ = _; rw [List.drop_zero]; exact hin
    have HLL : Hid (l = headL x inner.length ++ inner) := hl
    have hsb := shape_bounds hsh
    have hbl : Below w.heap.size w (w.alloc (.cells #[.int .i64 x.cls, .int .i64 x.tag, .bool x.cons, .slice ab nb cb, .slice ak nk ck] 26)) := (Below.refl _ _).alloc (Nat.le_refl _) _
    have hB1 : Below w.heap.size w ((w.alloc (.cells #[.int .i64 x.cls, .int .i64 x.tag, .bool x.cons, .slice ab nb cb, .slice ak nk ck] 26)).alloc (.cells #[] 5)) := hbl.alloc hbl.size _
    have HO : Hid (Own (w.heap.size + 1) ((w.alloc (.cells #[.int .i64 x.cls, .int .i64 x.tag, .bool x.cons, .slice ab nb cb, .slice ak nk ck] 26)).alloc (.cells #[] 5)) (some ⟨w.heap.size + 1, 0, none⟩) 0 0 []) := own_zero _ _ _ (by simp) (by simp)
    have BX0 : Hid (_) := boxT_new 26 w x ab nb cb ak nk ck
    clear hrow hk hin hl henc hge
    unfold itv
    go_enter Tryd.func49, Tryd.ntmps49
    go_wp2_with (at_builtin; refine wpList_append_row _ rfl (.tmp 5) (.tmp 7) 22 rfl (w.heap.size + 1) i0 Tryd.underlying22 hi hz0 hz1 hz2 _ _ _ rfl HO.out.row ab nb cb x.body rfl (HR.out.kept hB1) hnil (by omega) (by simp) ?_; intro v1 w1 hv1 hg1; obtain ⟨a1, c1, rfl, ho1⟩ := own_appended (xs := []) (ys := x.body) hv1 HO.out.byte HR.out.byte; have hb1 : Below w.heap.size w w1 := below_appended hB1 hB1.size (HO.out.mono (by omega)).row hg1; have hx1 : BoxT 26 w.heap.size w1 x ab nb cb ak nk ck := ⟨(hg1.block w.heap.size (by simp; omega) (by show some w.heap.size ≠ some (w.heap.size + 1); simp)).trans ((alloc_old _ _ _ (by simp)).trans BX0.out.heap)⟩)
    have ho1' : Own (w.heap.size + 1) w1 a1 nb c1 x.body := by simpa using ho1
    go_loopw [3, 4] (fun o i wr => ∃ (k m c : Nat) (ao : Option Addr) (acc : List Int), k ≤ nk ∧ i = .int .i64 k ∧ o = .slice ao m c ∧ Own (w.heap.size + 1) wr ao m c acc ∧ m ≤ 20000 ∧ Hid (encK (enc r) acc (x.kids.drop k) = some inner) ∧ BoxT 26 w.heap.size wr x ab nb cb ak nk ck ∧ Below w.heap.size w wr) (fun _ i _ => nk - (intOf i).toNat)
    case atStart => exact ⟨0, nb, c1, a1, x.body, Nat.zero_le _, rfl, rfl, ho1', hnb, HI, hx1, hb1⟩
    case round =>
      obtain ⟨k, m, c, ao, acc, hk, rfl, rfl, hor, hm, hE, hbx, hbr⟩ := hrel
      obtain ⟨x0, x1, x2, x3, x4⟩ := hbx.cells
      have BX : Hid (BoxT 26 w.heap.size wr x ab nb cb ak nk ck) := hbx
      clear hbx
      have hs := hbr.size
      by_cases hkn : k < nk
      · obtain ⟨b, off, rfl, hlb, ab1, nb1, cb1, ak1, nk1, ck1, c0, c1', c2, c3, c4, hr1, hn1, hm1, hk1⟩ := HK.out.2.2 k hkn
        obtain ⟨p, hp, hpl, hpn⟩ := encK_step _ _ _ (by rw [HL.out]; exact hkn) _ _ hE.out
        obtain ⟨y, hy⟩ : ∃ y, y = x.kids.getD k default := ⟨_, rfl⟩
        rw [← hy] at c0 c1' c2 hr1 hk1 hp
        have cc : ∀ j, wr.cell? ⟨b, j, none⟩ = w.cell? ⟨b, j, none⟩ := fun j => hbr.cell (p := ⟨b, j, none⟩) hlb
        rw [← cc] at c0 c1' c2 c3 c4
        have hkni : (k : Int) < (nk : Int) := by omega
        have hla := hor.length
        rw [hla] at hpl
        have R1 : Hid (_) := hr1.kept hbr
        have K1 : Hid (_) := hk1.kept hbr
        have HP : Hid (enc r y = some p) := hp
        have HPN : Hid (encK (enc r) (acc ++ p) (x.kids.drop (k + 1)) = some inner) := hpn
        clear cc hy hr1 hk1 hp hpn hla
        go_wp2_with fail
        refine (ih r y p ab1 nb1 cb1 ak1 nk1 ck1 _ HP.out R1.out hn1 K1.out).mono ?_
        rintro e w2 ⟨a2, c2', rfl, ho2, hb2⟩
        have hb2' : Below w.heap.size w w2 := hbr.trans (hb2.mono hs)
        have hor2 := hor.kept hb2
        have ho2' := ho2.mono hs
        obtain ⟨q, hq⟩ : ∃ q, q = p.length := ⟨_, rfl⟩
        rw [← hq] at ho2 ho2' hpl ⊢
        have BX2 : Hid (_) := BX.out.kept hb2
        clear hq
        go_wp2_with (at_builtin; refine wpList_append_row _ rfl (.tmp 16) (.tmp 22) 22 rfl (w.heap.size + 1) i0 Tryd.underlying22 hi hz0 hz1 hz2 _ _ _ rfl hor2.row a2 q c2' p rfl ho2.toRow ho2.nil (by omega) (by have := BX.out.lt; have := hb2.size; omega) ?_; intro v3 w3 hv3 hg3)
        obtain ⟨a3, c3', rfl, ho3⟩ := own_appended (xs := acc) (ys := p) hv3 hor2.byte ho2.byte
        have hb3 : Below w.heap.size w w3 := below_appended hb2' hb2'.size (hor2.mono (by omega)).row hg3
        have hlt2 := BX2.out.lt
        have hx3 : BoxT 26 w.heap.size w3 x ab nb cb (some ⟨b, off, none⟩) nk ck := ⟨(hg3.block w.heap.size hlt2 (fun e => by have := (hor2.row.lt _ e.symm).1; omega)).trans BX2.out.heap⟩
        have FIN : Hid (_ ∧ _) := ⟨ho3, hx3⟩
        clear ho3 hx3 hv3 hg3
        go_wp2
        go_roundw
        case rel => exact ⟨k + 1, m + q, c3', a3, acc ++ p, by omega, by go_num, rfl, FIN.out.1, hpl, HPN, FIN.out.2, hb3⟩
        case measure => simp [intOf]; omega
      · obtain rfl : nk = k := by omega
        have hacc : Hid (acc = inner) := by
          show _ = _
          have := hE.out
          rw [encK_end _ _ _ (by rw [HL.out]; exact Nat.le_refl _)] at this
          exact Option.some.inj this
        go_wp2_with fail
        refine (l2Head_any x ab nb cb ak nk ck m _ hsb.1 hsb.2 (by omega)).mono ?_
        rintro e w3 ⟨a3, c3, rfl, ho3, hb3⟩
        have hb3' : Below w.heap.size w w3 := hbr.trans (hb3.mono hs)
        have hor3 := hor.kept hb3
        have hla := hor.length
        have hh := headL_len x m hsb.2
        have HLL2 : Hid (l = headL x m ++ acc) := by show _ = _; rw [HLL.out, ← hacc.out, hla]
        obtain ⟨hd, hhd⟩ : ∃ hd, hd = headL x m := ⟨_, rfl⟩
        rw [← hhd] at ho3 hh HLL2 ⊢
        obtain ⟨nh, hnh⟩ : ∃ nh, nh = hd.length := ⟨_, rfl⟩
        rw [← hnh] at ho3 hh ⊢
        have HN : Hid (l.length = nh + m) := by show _ = _; rw [HLL2.out, List.length_append, hla, ← hnh]
        have ho3' := ho3.mono hs
        clear hhd hnh hla
        go_wp2_with (at_builtin; refine wpList_append_row _ rfl (.tmp 27) (.tmp 28) 22 rfl w.heap.size i0 Tryd.underlying22 hi hz0 hz1 hz2 _ _ _ rfl ho3'.row ao m c acc rfl hor3.toRow hor3.nil (by omega) hb3'.size ?_; intro v5 w5 hv5 hg5; obtain ⟨a5, c5, rfl, ho5⟩ := own_appended (xs := hd) (ys := acc) hv5 ho3'.byte hor3.byte; have hb5 : Below w.heap.size w w5 := below_appended hb3' hb3'.size ho3'.row hg5)
        go_ret
        exact ⟨a5, c5, by rw [HN.out]; rfl, by rw [HN.out, HLL2.out]; exact ho5, hb5⟩

theorem specBytes_all (d : Nat) : SpecBytes d := by
  induction d with
  | zero => intro r x l ab nb cb ak nk ck w _ _ _ h; exact h.elim
  | succ d ih => exact specBytes_next d ih

end Go.Proofs.YtjkkokjojaknkaaDoor
