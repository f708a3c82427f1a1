import Derived.Test.YtpnhhhhmonbajaaGreatMTRs
import Derived.Test.YtpnhhhhmonbajaaGreatMSM
import Derived.Test.YtpnhhhhmonbajaaGreatMRJ
set_option linter.unusedVariables false
namespace Go.Proofs.YtpnhhhhmonbajaaGreat
open Go.RowKit Go.Sort

def SaysG (P : Prop) (w : World) (e : Ending) (w' : World) : Prop := ∃ b, e = .returned (.bool b) ∧ Hid (b = true ↔ P) ∧ Below w.heap.size w w'
theorem saysG_t {P : Prop} {w w' : World} (h : P) (hb : Below w.heap.size w w') : SaysG P w (.returned (.bool true)) w' := ⟨true, rfl, ⟨fun _ => h, fun _ => rfl⟩, hb⟩
theorem saysG_f {P : Prop} {w w' : World} (h : ¬ P) (hb : Below w.heap.size w w') : SaysG P w (.returned (.bool false)) w' := ⟨false, rfl, ⟨fun e => (by cases e), fun e => absurd e h⟩, hb⟩
/-- Signers that are right, so many levels deep. -/
def okS : Nat → List ItT → Prop
  | 0, xs => xs.length = 0
  | d + 1, xs => xs.length ≤ 6 ∧ ∀ k, k < xs.length → timP (xs.getD k default).at2 ∧ (xs.getD k default).sg.length ≤ 500 ∧ okS d (xs.getD k default).over
def elP (d : Nat) (x : ItT) : Prop := timP x.at2 ∧ x.sg.length ≤ 500 ∧ okS d x.over
def AllEl (d : Nat) (xs : List ItT) (n : Nat) : Prop := ∀ k, k < n → elP d (xs.getD k default)
theorem okS_succ (d : Nat) (xs : List ItT) (n : Nat) (h : xs.length = n) : okS (d + 1) xs ↔ n ≤ 6 ∧ AllEl d xs n := by subst h; exact Iff.rfl
theorem cells4g {W : World} {g : Nat} {x y z u : Value} {t : TypeId} (h : W.heap[g]? = some (.cells #[x, y, z, u] t (0, 0))) : W.cell? ⟨g, 0, none⟩ = some x ∧ W.cell? ⟨g, 1, none⟩ = some y ∧ W.cell? ⟨g, 2, none⟩ = some z ∧ W.cell? ⟨g, 3, none⟩ = some u :=
  ⟨(cell_of_row _ _ 0 _ t (0, 0) h).trans rfl, (cell_of_row _ _ 1 _ t (0, 0) h).trans rfl, (cell_of_row _ _ 2 _ t (0, 0) h).trans rfl, (cell_of_row _ _ 3 _ t (0, 0) h).trans rfl⟩
theorem cells2m {W : World} {g : Nat} {x y : Value} {t : TypeId} (h : W.heap[g]? = some (.cells #[x, y] t (0, 0))) : W.cell? ⟨g, 0, none⟩ = some x ∧ W.cell? ⟨g, 1, none⟩ = some y :=
  ⟨(cell_of_row _ _ 0 _ t (0, 0) h).trans rfl, (cell_of_row _ _ 1 _ t (0, 0) h).trans rfl⟩
theorem KidsT.len {d : Nat} {w : World} {a : Option Addr} {n : Nat} {xs : List ItT} (h : KidsT d w a n xs) : xs.length = n ∧ n ≤ 9223372036854775807 := by
  cases d with
  | zero => exact h.elim
  | succ d => exact ⟨h.1, h.2.1⟩

def SgOk (d : Nat) : Prop := ∀ (L : Int) (D : Nat) (a : Option Addr) (n c : Nat) (xs : List ItT) (w : World), L = d → KidsT D w a n xs → Calls Tryz.prog 43 #[.slice a n c, .int .i64 L] w (SaysG (okS d xs) w)

set_option maxRecDepth 10000 in
set_option maxHeartbeats 2000000 in
theorem sgClosure_any (d : Nat) (hd : d ≤ 10) (ih : SgOk d) (D : Nat) (x : ItT) (ab : Option Addr) (nb cb : Nat) (ak : Option Addr) (nk ck : Nat) (g : Nat) (w : World) (hg : g < w.heap.size) (cg : w.cell? ⟨g, 0, none⟩ = some (.int .i64 ((d : Int) + 1))) (hl : x.sg.length = nb) (hnb : nb ≤ 9223372036854775807) (hk : KidsT D w ak nk x.over) :
    Calls Tryz.prog 62 #[.agg #[.int .u64 x.ky, .int .i64 x.at2, .slice ab nb cb, .slice ak nk ck], .pointer (some ⟨g, 0, none⟩)] w (SaysG (elP d x) w) := by
  obtain ⟨wb, hwb⟩ : ∃ wb, wb = w.alloc (.cells #[.int .u64 x.ky, .int .i64 x.at2, .slice ab nb cb, .slice ak nk ck] 47) := ⟨_, rfl⟩
  have hbb : Below w.heap.size w wb := by rw [hwb]; exact (Below.refl _ _).alloc (Nat.le_refl _) _
  have hblk : wb.heap[w.heap.size]? = some (.cells #[.int .u64 x.ky, .int .i64 x.at2, .slice ab nb cb, .slice ak nk ck] 47 (0, 0)) := by rw [hwb]; exact heap_alloc_new w _
  obtain ⟨c0, c1, c2, c3⟩ := cells4g hblk
  have cgb : wb.cell? ⟨g, 0, none⟩ = some (.int .i64 ((d : Int) + 1)) := (hbb.cell (p := ⟨g, 0, none⟩) hg).trans cg
  have HK : Hid (KidsT D wb ak nk x.over) := hk.kept hbb
  have HW : Hid (_ = _) := hwb
  have HL : Hid (x.sg.length = nb) := hl
  clear hwb hblk cg hk hl
  go_enter Tryz.func62, Tryz.ntmps62
  go_upto_region 1 with fail
  rw [← HW.out]
  clear HW
  go_wp2_with fail
  refine (isTim_any x.at2 _).mono ?_
  rintro e w2 ⟨rfl, hw2⟩
  have hw2 := hw2.symm
  subst hw2
  by_cases h1 : timP x.at2
  case neg =>
    rw [decide_eq_false h1]
    have HN : Hid (¬ elP d x) := fun h => h1 h.1
    clear h1
    go_wp2
    go_ret
    exact saysG_f HN.out hbb
  rw [decide_eq_true h1]
  have H1 : Hid (timP x.at2) := h1
  clear h1
  by_cases h2 : nb ≤ 500
  case neg =>
    have q2 : ¬ (nb : Int) ≤ 500 := by omega
    have HN : Hid (¬ elP d x) := fun h => h2 (by have := h.2.1; rw [HL.out] at this; exact this)
    clear h2
    go_wp2
    go_ret
    exact saysG_f HN.out hbb
  have q2 : (nb : Int) ≤ 500 := by omega
  go_wp2_with fail
  refine (ih _ D ak nk ck x.over _ (by first | omega | (simp; omega) | simp) HK.out).mono ?_
  rintro e w3 ⟨b, rfl, HB, hb3⟩
  have hB := keepT hbb hb3
  clear c0 c1 c2 c3 cgb
  cases b with
  | true =>
    have HP : Hid (elP d x) := ⟨H1.out, by rw [HL.out]; exact h2, HB.out.1 rfl⟩
    go_wp2
    go_ret
    exact saysG_t HP.out hB
  | false =>
    have HP : Hid (¬ elP d x) := fun h => by have := HB.out.2 h.2.2; cases this
    go_wp2
    go_ret
    exact saysG_f HP.out hB

set_option maxRecDepth 10000 in
set_option maxHeartbeats 2000000 in
theorem everySigner_any (d : Nat) (hd : d ≤ 10) (ih : SgOk d) (D : Nat) (a : Option Addr) (n c : Nat) (xs : List ItT) (g : Nat) (w : World) (hg : g < w.heap.size) (cg : w.cell? ⟨g, 0, none⟩ = some (.int .i64 ((d : Int) + 1))) (h : KidsT D w a n xs) :
    Calls Tryz.prog 61 #[.slice a n c, .func (Fn.func 62) #[] #[.pointer (some ⟨g, 0, none⟩)]] w (SaysG (AllEl d xs n) w) := by
  obtain ⟨D, rfl⟩ : ∃ D', D = D' + 1 := by
    cases D with
    | zero => exact h.elim
    | succ D => exact ⟨D, rfl⟩
  have H0 : Hid (KidsT (D + 1) w a n xs) := h
  have HCG : Hid (w.cell? ⟨g, 0, none⟩ = some (.int .i64 ((d : Int) + 1))) := cg
  have hn := h.2.1
  clear h cg
  go_enter Tryz.func61, Tryz.ntmps61
  go_wp2
  go_loopw [9] (fun i wr => ∃ k : Nat, k ≤ n ∧ i = .int .i64 k ∧ Hid (AllEl d xs k) ∧ Below w.heap.size w wr) (fun i _ => n - (intOf i).toNat)
  case atStart => exact ⟨0, Nat.zero_le _, rfl, fun k hk => absurd hk (Nat.not_lt_zero _), Below.refl _ _⟩
  case round =>
    obtain ⟨k, hk, rfl, HE, hbr⟩ := hrel
    have hws := hbr.size
    by_cases hlt : k < n
    · obtain ⟨b, off, rfl, hlb, ab, nb, cb, ak, nk, ck, c0, c1, c2, c3, hr, hnil, hnb, hu, hkk⟩ := H0.out.2.2 k hlt
      obtain ⟨y, hy⟩ : ∃ y, y = xs.getD k default := ⟨_, rfl⟩
      rw [← hy] at c0 c1 hr hkk
      have HY : Hid (y = xs.getD k default) := hy
      have cc : ∀ j, wr.cell? ⟨b, j, none⟩ = w.cell? ⟨b, j, none⟩ := fun j => hbr.cell (p := ⟨b, j, none⟩) hlb
      rw [← cc] at c0 c1 c2 c3
      have hkni : (k : Int) < (n : Int) := by omega
      have hbw : b < wr.heap.size := by omega
      have hbz : Below wr.heap.size wr (wr.alloc (.cells #[.int .u64 y.ky, .int .i64 y.at2, .slice ab nb cb, .slice ak nk ck] 47)) := (Below.refl _ _).alloc (Nat.le_refl _) _
      have HC : Hid (∀ W, Below w.heap.size w W → Calls Tryz.prog 62 #[.agg #[.int .u64 y.ky, .int .i64 y.at2, .slice ab nb cb, .slice ak nk ck], .pointer (some ⟨g, 0, none⟩)] W (SaysG (elP d y) W)) := fun W hW => sgClosure_any d hd ih D y ab nb cb ak nk ck g W (Nat.lt_of_lt_of_le hg hW.size) ((hW.cell (p := ⟨g, 0, none⟩) hg).trans HCG.out) hr.len hnb (hkk.kept hW)
      clear cc hy hr hkk
      go_wp2_with fail
      refine (HC.out _ (keepT hbr hbz)).mono ?_
      rintro e w2 ⟨bb, rfl, hbi, hb2⟩
      have B2 : Below w.heap.size w w2 := hbr.trans ((keepT hbz hb2).mono hws)
      clear c0 c1 c2 c3
      cases bb with
      | true =>
        have HP : Hid (elP d y) := hbi.out.1 rfl
        clear hbi
        go_wp2
        go_roundw
        case rel => exact ⟨k + 1, by omega, by go_num, fun j hj => by
          by_cases e : j < k
          · exact HE.out j e
          · obtain rfl : j = k := by omega
            rw [← HY.out]; exact HP.out, B2⟩
        case measure => simp [intOf]; omega
      | false =>
        have HP : Hid (¬ elP d y) := fun h => by have := hbi.out.2 h; cases this
        clear hbi
        go_wp2
        go_ret
        exact saysG_f (fun e => HP.out (by rw [HY.out]; exact e k hlt)) B2
    · obtain rfl : k = n := by omega
      go_wp2
      go_ret
      exact saysG_t HE.out hbr

set_option maxRecDepth 10000 in
set_option maxHeartbeats 2000000 in
theorem signersOk_zero : SgOk 0 := by
  intro L D a n c xs w hL hk
  obtain rfl : L = 0 := hL
  obtain ⟨hlen, hn⟩ := hk.len
  clear hk
  have hb : Below w.heap.size w (w.alloc (.cells #[.int .i64 0] 3)) := (Below.refl _ _).alloc (Nat.le_refl _) _
  by_cases h0 : n = 0
  · subst h0
    go_enter Tryz.func43, Tryz.ntmps43
    go_wp2
    go_ret
    exact saysG_t hlen hb
  · have q0 : ((n : Int) == 0) = false := by simp [h0]
    have HN : Hid (¬ okS 0 xs) := fun h => h0 (hlen.symm.trans h)
    go_enter Tryz.func43, Tryz.ntmps43
    go_wp2
    go_ret
    exact saysG_f HN.out hb

set_option maxRecDepth 10000 in
set_option maxHeartbeats 2000000 in
theorem signersOk_next (d : Nat) (hd : d ≤ 10) (ih : SgOk d) : SgOk (d + 1) := by
  intro L D a n c xs w hL hk
  obtain rfl : L = (d : Int) + 1 := by omega
  clear hL
  obtain ⟨hlen, hn⟩ := hk.len
  obtain ⟨wb, hwb⟩ : ∃ wb, wb = w.alloc (.cells #[.int .i64 ((d : Int) + 1)] 3) := ⟨_, rfl⟩
  have hbb : Below w.heap.size w wb := by rw [hwb]; exact (Below.refl _ _).alloc (Nat.le_refl _) _
  have hblk : wb.heap[w.heap.size]? = some (.cells #[.int .i64 ((d : Int) + 1)] 3 (0, 0)) := by rw [hwb]; exact heap_alloc_new w _
  have cg : wb.cell? ⟨w.heap.size, 0, none⟩ = some (.int .i64 ((d : Int) + 1)) := (cell_of_row _ _ 0 _ 3 (0, 0) hblk).trans rfl
  have hgl : w.heap.size < wb.heap.size := (Array.getElem?_eq_some_iff.1 hblk).1
  have HK : Hid (KidsT D wb a n xs) := hk.kept hbb
  have HS : Hid (okS (d + 1) xs ↔ n ≤ 6 ∧ AllEl d xs n) := okS_succ d xs n hlen
  have qd : ((d : Int) + 1 == 0) = false := by simp; omega
  have HW : Hid (_ = _) := hwb
  clear hwb hblk hk
  go_enter Tryz.func43, Tryz.ntmps43
  go_upto_region 1 with fail
  rw [← HW.out]
  clear HW
  by_cases h6 : n ≤ 6
  case neg =>
    have q6 : ¬ (n : Int) ≤ 6 := by omega
    have HN : Hid (¬ okS (d + 1) xs) := fun h => h6 (HS.out.1 h).1
    clear h6
    go_wp2
    go_ret
    exact saysG_f HN.out hbb
  have q6 : (n : Int) ≤ 6 := by omega
  go_wp2_with fail
  refine (everySigner_any d hd ih D a n c xs w.heap.size _ hgl cg HK.out).mono ?_
  rintro e w3 ⟨b, rfl, HB, hb3⟩
  have hB := keepT hbb hb3
  clear cg
  cases b with
  | true =>
    have HP : Hid (okS (d + 1) xs) := HS.out.2 ⟨h6, HB.out.1 rfl⟩
    go_wp2
    go_ret
    exact saysG_t HP.out hB
  | false =>
    have HP : Hid (¬ okS (d + 1) xs) := fun h => by have := HB.out.2 (HS.out.1 h).2; cases this
    go_wp2
    go_ret
    exact saysG_f HP.out hB

theorem signersOk_two : SgOk 2 := signersOk_next 1 (by decide) (signersOk_next 0 (by decide) signersOk_zero)
def msgP (n : Nat) (xs : List ItT) : Prop := n ≤ 4000 ∧ okS 2 xs

set_option maxRecDepth 10000 in
set_option maxHeartbeats 2000000 in
theorem isRightM_any (D : Nat) (am : Option Addr) (nn cm : Nat) (a : Option Addr) (n c : Nat) (xs : List ItT) (w : World) (hnn : nn ≤ 9223372036854775807) (hk : KidsT D w a n xs) :
    Calls Tryz.prog 21 #[.agg #[.slice am nn cm, .slice a n c]] w (SaysG (msgP nn xs) w) := by
  obtain ⟨wb, hwb⟩ : ∃ wb, wb = w.alloc (.cells #[.slice am nn cm, .slice a n c] 32) := ⟨_, rfl⟩
  have hbb : Below w.heap.size w wb := by rw [hwb]; exact (Below.refl _ _).alloc (Nat.le_refl _) _
  have hblk : wb.heap[w.heap.size]? = some (.cells #[.slice am nn cm, .slice a n c] 32 (0, 0)) := by rw [hwb]; exact heap_alloc_new w _
  obtain ⟨c0, c1⟩ := cells2m hblk
  have HK : Hid (KidsT D wb a n xs) := hk.kept hbb
  have HW : Hid (_ = _) := hwb
  clear hwb hblk hk
  go_enter Tryz.func21, Tryz.ntmps21
  go_upto_region 1 with fail
  rw [← HW.out]
  clear HW
  by_cases h1 : nn ≤ 4000
  case neg =>
    have q1 : ¬ (nn : Int) ≤ 4000 := by omega
    have HN : Hid (¬ msgP nn xs) := fun h => h1 h.1
    go_wp2
    go_ret
    exact saysG_f HN.out hbb
  have q1 : (nn : Int) ≤ 4000 := by omega
  go_wp2_with fail
  refine (signersOk_two 2 D a n c xs _ rfl HK.out).mono ?_
  rintro e w3 ⟨b, rfl, HB, hb3⟩
  have hB := keepT hbb hb3
  clear c0 c1
  cases b with
  | true =>
    have HP : Hid (msgP nn xs) := ⟨h1, HB.out.1 rfl⟩
    go_wp2
    go_ret
    exact saysG_t HP.out hB
  | false =>
    have HP : Hid (¬ msgP nn xs) := fun h => by have := HB.out.2 h.2; cases this
    go_wp2
    go_ret
    exact saysG_f HP.out hB

end Go.Proofs.YtpnhhhhmonbajaaGreat

set_option linter.unusedVariables false
namespace Go.Proofs.YtpnhhhhmonbajaaGreat
open Go.RowKit Go.Sort

set_option maxRecDepth 10000 in
set_option maxHeartbeats 4000000 in
theorem l17SignersOk_in (D : Nat) (a : Option Addr) (n c : Nat) (xs : List ItT) (w : World) (h : KidsT D w a n xs) :
    Calls Tryz.prog 35 #[.slice a n c, .bool true] w (SaysG (okS 1 xs) w) := by
  obtain ⟨D, rfl⟩ : ∃ D', D = D' + 1 := by
    cases D with
    | zero => exact h.elim
    | succ D => exact ⟨D, rfl⟩
  have H0 : Hid (KidsT (D + 1) w a n xs) := h
  have hn := h.2.1
  have HS : Hid (okS 1 xs ↔ n ≤ 6 ∧ AllEl 0 xs n) := okS_succ 0 xs n h.1
  clear h
  by_cases h6 : n ≤ 6
  case neg =>
    have q6 : (6 : Int) < (n : Int) := by omega
    have HN : Hid (¬ okS 1 xs) := fun h => h6 (HS.out.1 h).1
    go_enter Tryz.func35, Tryz.ntmps35
    go_wp2
    go_ret
    exact saysG_f HN.out (Below.refl _ _)
  have q6 : ¬ (6 : Int) < (n : Int) := by omega
  go_enter Tryz.func35, Tryz.ntmps35
  go_wp2
  clear q6
  go_loopw [5] (fun i wr => ∃ k : Nat, k ≤ n ∧ i = .int .i64 k ∧ Hid (AllEl 0 xs k) ∧ Below w.heap.size w wr) (fun i _ => n - (intOf i).toNat)
  case atStart => exact ⟨0, Nat.zero_le _, rfl, fun k hk => absurd hk (Nat.not_lt_zero _), Below.refl _ _⟩
  case round =>
    obtain ⟨k, hk, rfl, HE, hbr⟩ := hrel
    have hws := hbr.size
    by_cases hlt : k < n
    · obtain ⟨b, off, rfl, hlb, ab, nb, cb, ak, nk, ck, c0, c1, c2, c3, hr, hnil, hnb, hu, hkk⟩ := H0.out.2.2 k hlt
      obtain ⟨y, hy⟩ : ∃ y, y = xs.getD k default := ⟨_, rfl⟩
      rw [← hy] at c0 c1 hr hkk
      have HY : Hid (y = xs.getD k default) := hy
      have cc : ∀ j, wr.cell? ⟨b, j, none⟩ = w.cell? ⟨b, j, none⟩ := fun j => hbr.cell (p := ⟨b, j, none⟩) hlb
      rw [← cc] at c0 c1 c2 c3
      have hkni : (k : Int) < (n : Int) := by omega
      have hbw : b < wr.heap.size := by omega
      have HLN : Hid (y.sg.length = nb) := hr.len
      have HKK : Hid (KidsT D wr ak nk y.over) := hkk.kept hbr
      have HON : Hid (y.over.length = nk) := hkk.len.1
      have hnk := hkk.len.2
      obtain ⟨wy, hwy⟩ : ∃ wy, wy = wr.alloc (.cells #[.int .u64 y.ky, .int .i64 y.at2, .slice ab nb cb, .slice ak nk ck] 47) := ⟨_, rfl⟩
      have hby : Below wr.heap.size wr wy := by rw [hwy]; exact (Below.refl _ _).alloc (Nat.le_refl _) _
      have hblk : wy.heap[wr.heap.size]? = some (.cells #[.int .u64 y.ky, .int .i64 y.at2, .slice ab nb cb, .slice ak nk ck] 47 (0, 0)) := by rw [hwy]; exact heap_alloc_new _ _
      have HYB : Hid (_) := hblk
      have hBy : Below w.heap.size w wy := hbr.trans (hby.mono hws)
      have HBAD : Hid (¬ elP 0 y → ¬ okS 1 xs) := fun h1 h2 => h1 (by rw [HY.out]; exact (HS.out.1 h2).2 k hlt)
      have HNX : Hid (elP 0 y → AllEl 0 xs (k + 1)) := fun hp j hj => by
        by_cases e : j < k
        · exact HE.out j e
        · obtain rfl : j = k := by omega
          rw [← HY.out]; exact hp
      have HW : Hid (_ = _) := hwy
      clear cc hy hr hkk hwy hblk hu
      go_upto_region 7 with fail
      rw [← HW.out]
      clear HW c0 c1 c2 c3
      obtain ⟨c0, c1, c2, c3⟩ := cells4g HYB.out
      go_wp2_with fail
      refine (l10Tim_any y.at2 _).mono ?_
      rintro e w2 ⟨rfl, hw2⟩
      have hw2 := hw2.symm
      subst hw2
      by_cases h1 : timP y.at2
      case neg =>
        rw [decide_eq_false h1]
        have HP : Hid (¬ okS 1 xs) := HBAD.out (fun h => h1 h.1)
        clear h1
        go_wp2
        go_ret
        exact saysG_f HP.out hBy
      rw [decide_eq_true h1]
      have H1 : Hid (timP y.at2) := h1
      clear h1
      by_cases h2 : nb ≤ 500
      case neg =>
        have q2 : (500 : Int) < (nb : Int) := by omega
        have HP : Hid (¬ okS 1 xs) := HBAD.out (fun h => h2 (by have := h.2.1; rw [HLN.out] at this; exact this))
        go_wp2
        go_ret
        exact saysG_f HP.out hBy
      have q2 : ¬ (500 : Int) < (nb : Int) := by omega
      by_cases h3 : nk = 0
      case neg =>
        have q3 : (0 : Int) < (nk : Int) := by omega
        have HP : Hid (¬ okS 1 xs) := HBAD.out (fun h => h3 (HON.out.symm.trans h.2.2))
        go_wp2
        go_ret
        exact saysG_f HP.out hBy
      have q3 : ¬ (0 : Int) < (nk : Int) := by omega
      have HP : Hid (elP 0 y) := ⟨H1.out, by rw [HLN.out]; exact h2, by show y.over.length = 0; rw [HON.out]; exact h3⟩
      clear h3
      go_wp2
      go_roundw
      case rel => exact ⟨k + 1, by omega, by go_num, HNX.out HP.out, hBy⟩
      case measure => simp [intOf]; omega
    · obtain rfl : k = n := by omega
      have HP : Hid (okS 1 xs) := HS.out.2 ⟨h6, HE.out⟩
      go_wp2
      go_ret
      exact saysG_t HP.out hbr

set_option maxRecDepth 10000 in
set_option maxHeartbeats 4000000 in
theorem l17SignersOk_out (D : Nat) (a : Option Addr) (n c : Nat) (xs : List ItT) (w : World) (h : KidsT D w a n xs) :
    Calls Tryz.prog 35 #[.slice a n c, .bool false] w (SaysG (okS 2 xs) w) := by
  obtain ⟨D, rfl⟩ : ∃ D', D = D' + 1 := by
    cases D with
    | zero => exact h.elim
    | succ D => exact ⟨D, rfl⟩
  have H0 : Hid (KidsT (D + 1) w a n xs) := h
  have hn := h.2.1
  have HS : Hid (okS 2 xs ↔ n ≤ 6 ∧ AllEl 1 xs n) := okS_succ 1 xs n h.1
  clear h
  by_cases h6 : n ≤ 6
  case neg =>
    have q6 : (6 : Int) < (n : Int) := by omega
    have HN : Hid (¬ okS 2 xs) := fun h => h6 (HS.out.1 h).1
    go_enter Tryz.func35, Tryz.ntmps35
    go_wp2
    go_ret
    exact saysG_f HN.out (Below.refl _ _)
  have q6 : ¬ (6 : Int) < (n : Int) := by omega
  go_enter Tryz.func35, Tryz.ntmps35
  go_wp2
  clear q6
  go_loopw [5] (fun i wr => ∃ k : Nat, k ≤ n ∧ i = .int .i64 k ∧ Hid (AllEl 1 xs k) ∧ Below w.heap.size w wr) (fun i _ => n - (intOf i).toNat)
  case atStart => exact ⟨0, Nat.zero_le _, rfl, fun k hk => absurd hk (Nat.not_lt_zero _), Below.refl _ _⟩
  case round =>
    obtain ⟨k, hk, rfl, HE, hbr⟩ := hrel
    have hws := hbr.size
    by_cases hlt : k < n
    · obtain ⟨b, off, rfl, hlb, ab, nb, cb, ak, nk, ck, c0, c1, c2, c3, hr, hnil, hnb, hu, hkk⟩ := H0.out.2.2 k hlt
      obtain ⟨y, hy⟩ : ∃ y, y = xs.getD k default := ⟨_, rfl⟩
      rw [← hy] at c0 c1 hr hkk
      have HY : Hid (y = xs.getD k default) := hy
      have cc : ∀ j, wr.cell? ⟨b, j, none⟩ = w.cell? ⟨b, j, none⟩ := fun j => hbr.cell (p := ⟨b, j, none⟩) hlb
      rw [← cc] at c0 c1 c2 c3
      have hkni : (k : Int) < (n : Int) := by omega
      have hbw : b < wr.heap.size := by omega
      have HLN : Hid (y.sg.length = nb) := hr.len
      have HKK : Hid (KidsT D wr ak nk y.over) := hkk.kept hbr
      have HON : Hid (y.over.length = nk) := hkk.len.1
      have hnk := hkk.len.2
      obtain ⟨wy, hwy⟩ : ∃ wy, wy = wr.alloc (.cells #[.int .u64 y.ky, .int .i64 y.at2, .slice ab nb cb, .slice ak nk ck] 47) := ⟨_, rfl⟩
      have hby : Below wr.heap.size wr wy := by rw [hwy]; exact (Below.refl _ _).alloc (Nat.le_refl _) _
      have hblk : wy.heap[wr.heap.size]? = some (.cells #[.int .u64 y.ky, .int .i64 y.at2, .slice ab nb cb, .slice ak nk ck] 47 (0, 0)) := by rw [hwy]; exact heap_alloc_new _ _
      have HYB : Hid (_) := hblk
      have hBy : Below w.heap.size w wy := hbr.trans (hby.mono hws)
      have HBAD : Hid (¬ elP 1 y → ¬ okS 2 xs) := fun h1 h2 => h1 (by rw [HY.out]; exact (HS.out.1 h2).2 k hlt)
      have HNX : Hid (elP 1 y → AllEl 1 xs (k + 1)) := fun hp j hj => by
        by_cases e : j < k
        · exact HE.out j e
        · obtain rfl : j = k := by omega
          rw [← HY.out]; exact hp
      have HW : Hid (_ = _) := hwy
      clear cc hy hr hkk hwy hblk hu
      go_upto_region 7 with fail
      rw [← HW.out]
      clear HW c0 c1 c2 c3
      obtain ⟨c0, c1, c2, c3⟩ := cells4g HYB.out
      go_wp2_with fail
      refine (l10Tim_any y.at2 _).mono ?_
      rintro e w2 ⟨rfl, hw2⟩
      have hw2 := hw2.symm
      subst hw2
      by_cases h1 : timP y.at2
      case neg =>
        rw [decide_eq_false h1]
        have HP : Hid (¬ okS 2 xs) := HBAD.out (fun h => h1 h.1)
        clear h1
        go_wp2
        go_ret
        exact saysG_f HP.out hBy
      rw [decide_eq_true h1]
      have H1 : Hid (timP y.at2) := h1
      clear h1
      by_cases h2 : nb ≤ 500
      case neg =>
        have q2 : (500 : Int) < (nb : Int) := by omega
        have HP : Hid (¬ okS 2 xs) := HBAD.out (fun h => h2 (by have := h.2.1; rw [HLN.out] at this; exact this))
        go_wp2
        go_ret
        exact saysG_f HP.out hBy
      have q2 : ¬ (500 : Int) < (nb : Int) := by omega
      go_wp2_with fail
      refine (l17SignersOk_in D ak nk ck y.over _ (HKK.out.kept hby)).mono ?_
      rintro e w3 ⟨bb, rfl, HB, hb3⟩
      have hB3 : Below w.heap.size w w3 := hBy.trans (hb3.mono hBy.size)
      clear c0 c1 c2 c3
      cases bb with
      | false =>
        have HP : Hid (¬ okS 2 xs) := HBAD.out (fun h => by have := HB.out.2 h.2.2; cases this)
        go_wp2
        go_ret
        exact saysG_f HP.out hB3
      | true =>
        have HP : Hid (elP 1 y) := ⟨H1.out, by rw [HLN.out]; exact h2, HB.out.1 rfl⟩
        go_wp2
        go_roundw
        case rel => exact ⟨k + 1, by omega, by go_num, HNX.out HP.out, hB3⟩
        case measure => simp [intOf]; omega
    · obtain rfl : k = n := by omega
      have HP : Hid (okS 2 xs) := HS.out.2 ⟨h6, HE.out⟩
      go_wp2
      go_ret
      exact saysG_t HP.out hbr

set_option maxRecDepth 10000 in
set_option maxHeartbeats 2000000 in
theorem l17Ok_any (D : Nat) (am : Option Addr) (nn cm : Nat) (a : Option Addr) (n c : Nat) (xs : List ItT) (w : World) (hnn : nn ≤ 9223372036854775807) (hk : KidsT D w a n xs) :
    Calls Tryz.prog 15 #[.agg #[.slice am nn cm, .slice a n c]] w (SaysG (msgP nn xs) w) := by
  obtain ⟨wb, hwb⟩ : ∃ wb, wb = w.alloc (.cells #[.slice am nn cm, .slice a n c] 32) := ⟨_, rfl⟩
  have hbb : Below w.heap.size w wb := by rw [hwb]; exact (Below.refl _ _).alloc (Nat.le_refl _) _
  have hblk : wb.heap[w.heap.size]? = some (.cells #[.slice am nn cm, .slice a n c] 32 (0, 0)) := by rw [hwb]; exact heap_alloc_new w _
  obtain ⟨c0, c1⟩ := cells2m hblk
  have HK : Hid (KidsT D wb a n xs) := hk.kept hbb
  have HW : Hid (_ = _) := hwb
  clear hwb hblk hk
  go_enter Tryz.func15, Tryz.ntmps15
  go_upto_region 1 with fail
  rw [← HW.out]
  clear HW
  by_cases h1 : nn ≤ 4000
  case neg =>
    have q1 : ¬ (nn : Int) ≤ 4000 := by omega
    have HN : Hid (¬ msgP nn xs) := fun h => h1 h.1
    go_wp2
    go_ret
    exact saysG_f HN.out hbb
  have q1 : (nn : Int) ≤ 4000 := by omega
  go_wp2_with fail
  refine (l17SignersOk_out D a n c xs _ HK.out).mono ?_
  rintro e w3 ⟨b, rfl, HB, hb3⟩
  have hB := keepT hbb hb3
  clear c0 c1
  cases b with
  | true =>
    have HP : Hid (msgP nn xs) := ⟨h1, HB.out.1 rfl⟩
    go_wp2
    go_ret
    exact saysG_t HP.out hB
  | false =>
    have HP : Hid (¬ msgP nn xs) := fun h => by have := HB.out.2 h.2; cases this
    go_wp2
    go_ret
    exact saysG_f HP.out hB

end Go.Proofs.YtpnhhhhmonbajaaGreat

set_option linter.unusedVariables false
namespace Go.Proofs.YtpnhhhhmonbajaaGreat
open Go.RowKit Go.Sort


set_option maxRecDepth 10000 in
set_option maxHeartbeats 2000000 in
theorem szMsg_any (D : Nat) (a1 : Option Addr) (n1 c1 : Nat) (a2 : Option Addr) (n2 c2 : Nat) (xs : List ItT) (lf : Int) (w : World) (hf0 : 0 ≤ lf) (hf1 : lf ≤ 1048576) (hn : n1 ≤ 9223372036854775807) (hk : KidsT D w a2 n2 xs) :
    Calls Tryz.prog 4 #[.agg #[.slice a1 n1 c1, .slice a2 n2 c2], .int .i64 lf] w fun e w' => ∃ r, e = .returned (.int .i64 r) ∧ (r < 0 ∨ (0 ≤ r ∧ r ≤ 1048576 ∧ n1 ≤ 1048576 ∧ wtST D xs ≤ 1048576)) ∧ Below w.heap.size w w' := by
  obtain ⟨w1, hw1⟩ : ∃ w1, w1 = w.alloc (.cells #[.slice a1 n1 c1, .slice a2 n2 c2] 25) := ⟨_, rfl⟩
  have hbb : Below w.heap.size w w1 := by rw [hw1]; exact (Below.refl _ _).alloc (Nat.le_refl _) _
  have HN : Hid (w1.heap[w.heap.size]? = some (.cells #[.slice a1 n1 c1, .slice a2 n2 c2] 25 (0, 0))) := by show _ = _; rw [hw1]; exact heap_alloc_new w _
  have HK : Hid (KidsT D w1 a2 n2 xs) := hk.kept hbb
  have HW : Hid (_ = _) := hw1
  obtain ⟨x0, x1⟩ := cells2m HN.out
  clear hw1 hk
  go_enter Tryz.func4, Tryz.ntmps4
  go_upto_region 1 with fail
  rw [← HW.out]
  clear HW
  go_wp2_with fail
  refine (szByteS_anyT a1 n1 c1 lf _ hn hf0 hf1).mono ?_
  rintro e w2 ⟨rfl, hw2⟩
  subst hw2
  by_cases h1 : (n1 : Int) ≤ lf
  case neg =>
    have e1 : szRT n1 lf = -1 := by rw [szRT, if_neg h1]
    rw [e1]
    clear e1
    go_wp2
    go_ret
    exact ⟨_, rfl, .inl (by decide), hbb⟩
  have e1 : szRT n1 lf = lf - n1 := by rw [szRT, if_pos h1]
  rw [e1]
  clear e1
  obtain ⟨l, hl⟩ : ∃ l : Int, l = lf - (n1 : Int) := ⟨_, rfl⟩
  rw [← hl]
  have hl0 : ¬ l < 0 := by omega
  have hlp : 0 ≤ l := by omega
  have hl1 : l ≤ 1048576 := by omega
  have hn1 : n1 ≤ 1048576 := by omega
  clear hl h1 hf0 hf1
  go_wp2_with fail
  refine (szS_allT D a2 n2 c2 xs l _ HK.out hlp hl1).mono ?_
  rintro e w3 ⟨rfl, hb3⟩
  have hB := keepT hbb hb3
  clear x0 x1
  obtain ⟨W, hWd⟩ : ∃ W : Nat, W = wtST D xs := ⟨_, rfl⟩
  rw [← hWd]
  have HWd : Hid (_ = _) := hWd
  clear hWd HK
  by_cases h2 : ((W : Nat) : Int) ≤ l
  case neg =>
    have e1 : szRT W l = -1 := by rw [szRT, if_neg h2]
    rw [e1]
    clear e1
    go_wp2
    go_ret
    exact ⟨_, rfl, .inl (by decide), hB⟩
  have e1 : szRT W l = l - (W : Nat) := by rw [szRT, if_pos h2]
  rw [e1]
  clear e1
  obtain ⟨r, hr⟩ : ∃ r : Int, r = l - ((W : Nat) : Int) := ⟨_, rfl⟩
  rw [← hr]
  have hr0 : ¬ r < 0 := by omega
  have HR : Hid (0 ≤ r ∧ r ≤ 1048576 ∧ n1 ≤ 1048576 ∧ W ≤ 1048576) := ⟨by omega, by omega, by omega, by omega⟩
  clear hr h2
  go_wp2
  go_ret
  exact ⟨r, rfl, .inr (by rw [← HWd.out]; exact HR.out), hB⟩

theorem results_msg {fn : Func} {t : Tmp} (h : fn.results = #[.cell t 32]) (tmps : Array Value) (g : Nat) (ht : tmps.getD t undef = .pointer (some ⟨g, 0, none⟩)) (w : World) (c1 : Array Value)
    (b1 : w.heap[g]? = some (.cells c1 32 (0, 0))) (s1 : c1.size = 2) : (results fn tmps).run Tryz.prog w = .ok (.agg c1) w := by
  have i1 : (Tryz.prog.info? 32).map (·.size) = some c1.size := by rw [s1]; kernel_rfl
  have ht' : tmps[t]?.getD undef = .pointer (some ⟨g, 0, none⟩) := by rw [← ht]; simp
  simp [results, h, ht', asAddr, run_loadVar_row w g _ _ c1 (0, 0) _ b1 Tryz.underlying32 rfl i1]

set_option maxRecDepth 10000 in
set_option maxHeartbeats 4000000 in
theorem toMsg_any (D : Nat) (a1 : Option Addr) (n1 c1 : Nat) (ws : List Int) (a2 : Option Addr) (n2 c2 : Nat) (xs : List ItT) (w : World) (hr : Row w a1 n1 ws) (hn : n1 ≤ 1048576) (hk : KidsT D w a2 n2 xs) (hw : wtST D xs ≤ 1048576) :
    Calls Tryz.prog 6 #[.agg #[.slice a1 n1 c1, .slice a2 n2 c2]] w fun e w' => ∃ b1 b2 M, e = .returned (.agg #[.slice b1 n1 n1, .slice b2 n2 n2]) ∧ (w.heap.size ≤ M ∧ M ≤ w'.heap.size ∧ OwnBT w.heap.size M w' b1 n1 n1 ws ∧ OwnKidsT D M w'.heap.size w' b2 n2 xs) ∧ Below w.heap.size w w' := by
  obtain ⟨W0, hW0⟩ : ∃ W0, W0 = ((w.alloc (.cells #[.slice a1 n1 c1, .slice a2 n2 c2] 25)).alloc (.cells #[.slice none 0 0, .slice none 0 0] 32)).alloc (.cells #[.slice none 0 0, .slice none 0 0] 32) := ⟨_, rfl⟩
  have hB0 : Below w.heap.size w W0 := by rw [hW0]; exact (((Below.refl _ _).alloc (Nat.le_refl _) _).alloc (by simp) _).alloc (by simp; omega) _
  have hS0 : W0.heap.size = w.heap.size + 3 := by rw [hW0]; simp
  obtain ⟨b0, b1, b2⟩ := three_blocksTr w (.cells #[.slice a1 n1 c1, .slice a2 n2 c2] 25) (.cells #[.slice none 0 0, .slice none 0 0] 32) (.cells #[.slice none 0 0, .slice none 0 0] 32)
  rw [← hW0] at b0 b1 b2
  have HR : Hid (Row W0 a1 n1 ws) := hr.kept hB0
  have HK : Hid (KidsT D w a2 n2 xs) := hk
  have HB : Hid (W0.heap[w.heap.size]? = some (.cells #[.slice a1 n1 c1, .slice a2 n2 c2] 25 (0, 0)) ∧ W0.heap[w.heap.size + 1]? = some (.cells #[.slice none 0 0, .slice none 0 0] 32 (0, 0)) ∧ W0.heap[w.heap.size + 2]? = some (.cells #[.slice none 0 0, .slice none 0 0] 32 (0, 0))) := ⟨b0, b1, b2⟩
  have HW : Hid (_ = _) := hW0
  obtain ⟨x0, x1⟩ := cells2m b0
  clear hW0 b0 b1 b2 hr hk
  go_enter Tryz.func6, Tryz.ntmps6
  go_upto_region 2 with fail
  rw [← HW.out]
  clear HW
  go_wp2_with fail
  refine (toByteS_any a1 n1 c1 ws _ HR.out hn).mono ?_
  rintro e w1 ⟨e1, rfl, ho1, hb1⟩
  have hs1 := hb1.size
  have HB1 : Hid (w1.heap[w.heap.size]? = some (.cells #[.slice a1 n1 c1, .slice a2 n2 c2] 25 (0, 0)) ∧ w1.heap[w.heap.size + 1]? = some (.cells #[.slice none 0 0, .slice none 0 0] 32 (0, 0)) ∧ w1.heap[w.heap.size + 1 + 1]? = some (.cells #[.slice none 0 0, .slice none 0 0] 32 (0, 0))) := ⟨below_kept HB.out.1 hb1, below_kept HB.out.2.1 hb1, below_kept HB.out.2.2 hb1⟩
  clear x0 x1
  obtain ⟨x0, x1⟩ := cells2m HB1.out.1
  obtain ⟨y0, y1⟩ := cells2m HB1.out.2.2
  have f0 := frozen_of_row w1 _ 0 _ _ HB1.out.2.2
  obtain ⟨W1, hW1⟩ : ∃ W1, W1 = w1.setCell ⟨w.heap.size + 1 + 1, 0, none⟩ (.slice e1 n1 n1) := ⟨_, rfl⟩
  have t1 : Touch (w.heap.size + 1) (w.heap.size + 3) w1 W1 := by rw [hW1]; exact touch_setT w1 _ 0 _ (by omega) (by omega)
  have hsz : W1.heap.size = w1.heap.size := by rw [hW1]; simp
  have HB2 : Hid (W1.heap[w.heap.size]? = some (.cells #[.slice a1 n1 c1, .slice a2 n2 c2] 25 (0, 0)) ∧ W1.heap[w.heap.size + 1]? = some (.cells #[.slice none 0 0, .slice none 0 0] 32 (0, 0)) ∧ W1.heap[w.heap.size + 1 + 1]? = some (.cells #[.slice e1 n1 n1, .slice none 0 0] 32 (0, 0))) := by
    refine ⟨touch_kept t1 HB1.out.1 (by omega), ?_, ?_⟩
    · rw [hW1]; exact (heap_setCell_other w1 ⟨w.heap.size + 1 + 1, 0, none⟩ (w.heap.size + 1) _ (by simp)).trans HB1.out.2.1
    · rw [hW1]; exact heap_setCell_same w1 _ 0 _ _ _ HB1.out.2.2
  have hB1 : Below w.heap.size w w1 := keepT hB0 hb1
  have hBW : Below w.heap.size w W1 := hB1.trans (t1.below (by omega) (by omega))
  have HOB1 : Hid (OwnBT W0.heap.size w1.heap.size W1 e1 n1 n1 ws) := (ho1.ownBT).touch (.inr (by omega)) t1
  have HW : Hid (_ = _) := hW1
  clear hW1 ho1
  go_upto_region 3 with fail
  rw [← HW.out]
  clear HW x0 x1 y0 y1 f0
  obtain ⟨x0, x1⟩ := cells2m HB2.out.1
  go_wp2_with fail
  refine (toS_allT D a2 n2 c2 xs _ (HK.out.kept hBW) hw).mono ?_
  rintro e w2 ⟨e2, rfl, ho2, hb2⟩
  have hs2 := hb2.size
  have HB3 : Hid (w2.heap[w.heap.size + 1]? = some (.cells #[.slice none 0 0, .slice none 0 0] 32 (0, 0)) ∧ w2.heap[w.heap.size + 1 + 1]? = some (.cells #[.slice e1 n1 n1, .slice none 0 0] 32 (0, 0))) := ⟨below_kept HB2.out.2.1 hb2, below_kept HB2.out.2.2 hb2⟩
  clear x0 x1
  obtain ⟨y0, y1⟩ := cells2m HB3.out.2
  have f1 := frozen_of_row w2 _ 1 _ _ HB3.out.2
  obtain ⟨z0, z1⟩ := cells2m HB3.out.1
  have g0 := frozen_of_row w2 _ 0 _ _ HB3.out.1
  have g1 := frozen_of_row w2 _ 1 _ _ HB3.out.1
  obtain ⟨W2, hW2⟩ : ∃ W2, W2 = ((w2.setCell ⟨w.heap.size + 1 + 1, 1, none⟩ (.slice e2 n2 n2)).setCell ⟨w.heap.size + 1, 0, none⟩ (.slice e1 n1 n1)).setCell ⟨w.heap.size + 1, 1, none⟩ (.slice e2 n2 n2) := ⟨_, rfl⟩
  have t2 : Touch (w.heap.size + 1) (w.heap.size + 3) w2 W2 := by rw [hW2]; exact ((touch_setT _ _ _ _ (by omega) (by omega)).trans (touch_setT _ _ _ _ (by omega) (by omega))).trans (touch_setT _ _ _ _ (by omega) (by omega))
  have hsz2 : W2.heap.size = w2.heap.size := by rw [hW2]; simp
  have HB4 : Hid (W2.heap[w.heap.size + 1]? = some (.cells #[.slice e1 n1 n1, .slice e2 n2 n2] 32 (0, 0))) := by
    show _ = _
    rw [hW2]
    have q0 := (heap_setCell_other w2 ⟨w.heap.size + 1 + 1, 1, none⟩ (w.heap.size + 1) (.slice e2 n2 n2) (by simp)).trans HB3.out.1
    exact heap_setCell_same _ _ 1 _ _ _ (heap_setCell_same _ _ 0 _ _ _ q0)
  have HO1 : Hid (OwnBT W0.heap.size w1.heap.size W2 e1 n1 n1 ws) := ((HOB1.out.kept hb2).touch (.inr (by omega)) t2)
  have HO2 : Hid (OwnKidsT D w1.heap.size W2.heap.size W2 e2 n2 xs) := by
    show OwnKidsT _ _ _ _ _ _ _
    rw [hsz2, ← hsz]
    exact ownKids_movesT D _ _ _ _ _ _ _ _ _ ho2 (.inr (by omega)) t2
  have hB2 : Below w.heap.size w W2 := (keepT hBW hb2).trans (t2.below (by omega) (by omega))
  have hs3 : w1.heap.size ≤ W2.heap.size := by omega
  have HW : Hid (_ = _) := hW2
  clear hW2 ho2
  go_wp2
  rw [← HW.out]
  try simp only [Exit.inBlock, Exit.then]
  exact bodyPost_ret (results_msg rfl _ (w.heap.size + 1) rfl _ _ HB4.out rfl) rfl ⟨e1, e2, w1.heap.size, rfl, ⟨by omega, hs3, HO1.out.mono (by omega) (Nat.le_refl _), HO2.out⟩, hB2⟩

set_option maxRecDepth 10000 in
set_option maxHeartbeats 2000000 in
theorem eqMsg_same (D : Nat) (a1 : Option Addr) (n1 c1 : Nat) (a2 : Option Addr) (n2 c2 : Nat) (b1 : Option Addr) (d1 : Nat) (b2 : Option Addr) (d2 : Nat) (ct : List Int) (gs : List ItT) (w : World) (h1 : Row w a1 n1 ct) (h2 : Row w b1 n1 ct) (hn : n1 ≤ maxLen) (g1 : KidsT D w a2 n2 gs) (g2 : KidsT D w b2 n2 gs) :
    Calls Tryz.prog 9 #[.agg #[.slice a1 n1 c1, .slice a2 n2 c2], .agg #[.slice b1 n1 d1, .slice b2 n2 d2]] w fun e w' => e = .returned (.bool true) ∧ Below w.heap.size w w' := by
  obtain ⟨w1, hw1⟩ : ∃ w1, w1 = (w.alloc (.cells #[.slice a1 n1 c1, .slice a2 n2 c2] 32)).alloc (.cells #[.slice b1 n1 d1, .slice b2 n2 d2] 32) := ⟨_, rfl⟩
  have hn2 := two_blocks w (.cells #[.slice a1 n1 c1, .slice a2 n2 c2] 32) (.cells #[.slice b1 n1 d1, .slice b2 n2 d2] 32)
  have hbb : Below w.heap.size w w1 := by rw [hw1]; exact two_below _ _ _
  rw [← hw1] at hn2
  have HA : Hid (Row w1 a1 n1 ct ∧ Row w1 b1 n1 ct) := ⟨h1.kept hbb, h2.kept hbb⟩
  have HG : Hid (KidsT D w1 a2 n2 gs ∧ KidsT D w1 b2 n2 gs) := ⟨g1.kept hbb, g2.kept hbb⟩
  have HN : Hid (w1.heap[w.heap.size]? = some (.cells #[.slice a1 n1 c1, .slice a2 n2 c2] 32 (0, 0)) ∧ w1.heap[w.heap.size + 1]? = some (.cells #[.slice b1 n1 d1, .slice b2 n2 d2] 32 (0, 0))) := hn2
  have HW : Hid (_ = _) := hw1
  obtain ⟨x0, x1⟩ := cells2m HN.out.1
  obtain ⟨y0, y1⟩ := cells2m HN.out.2
  clear hw1 hn2 h1 h2 g1 g2
  go_enter Tryz.func9, Tryz.ntmps9
  go_upto_region 1 with fail
  rw [← HW.out]
  clear HW
  go_wp2_with fail
  refine (eqByteS_any a1 b1 n1 n1 c1 d1 ct ct _ HA.out.1 HA.out.2 hn hn).mono ?_
  rintro e w2 ⟨rfl, hb2⟩
  rw [decide_eq_true (rfl : ct = ct)]
  clear x0 x1 y0 y1
  obtain ⟨x0, x1⟩ := cells2m (below_kept HN.out.1 hb2)
  obtain ⟨y0, y1⟩ := cells2m (below_kept HN.out.2 hb2)
  go_wp2_with fail
  refine (eqS_allT D a2 b2 n2 c2 d2 gs _ (HG.out.1.kept hb2) (HG.out.2.kept hb2)).mono ?_
  rintro e w3 ⟨rfl, hb3⟩
  clear x0 x1 y0 y1
  go_wp2
  go_ret
  exact ⟨rfl, keepT hbb (keepT hb2 hb3)⟩


set_option maxRecDepth 10000 in
set_option maxHeartbeats 2000000 in
theorem markMsg_any (D lo M hi : Nat) (a1 : Option Addr) (n1 c1 : Nat) (ws : List Int) (a2 : Option Addr) (n2 c2 : Nat) (xs : List ItT) (w : World) (h1 : lo ≤ M) (h2 : M ≤ hi) (hh : hi ≤ w.heap.size) (ho : OwnBT lo M w a1 n1 c1 ws) (hk : OwnKidsT D M hi w a2 n2 xs) (hn : n1 ≤ 1048576) (hw : wtST D xs ≤ 1048576) :
    Calls Tryz.prog 11 #[.agg #[.slice a1 n1 c1, .slice a2 n2 c2], .int .i64 1] w fun e w' => ∃ k : Nat, e = .returned (.int .i64 (k : Int)) ∧ k ≤ 5000000 ∧ Touch lo hi w w' := by
  obtain ⟨w1, hw1⟩ : ∃ w1, w1 = w.alloc (.cells #[.slice a1 n1 c1, .slice a2 n2 c2] 32) := ⟨_, rfl⟩
  have hbb : Below w.heap.size w w1 := by rw [hw1]; exact (Below.refl _ _).alloc (Nat.le_refl _) _
  have HN : Hid (w1.heap[w.heap.size]? = some (.cells #[.slice a1 n1 c1, .slice a2 n2 c2] 32 (0, 0))) := by show _ = _; rw [hw1]; exact heap_alloc_new w _
  have HO : Hid (OwnBT lo M w1 a1 n1 c1 ws) := ho.kept hbb
  have HK : Hid (OwnKidsT D M hi w1 a2 n2 xs) := hk.kept hbb
  have HW : Hid (_ = _) := hw1
  obtain ⟨x0, x1⟩ := cells2m HN.out
  clear hw1 ho hk
  go_enter Tryz.func11, Tryz.ntmps11
  go_upto_region 1 with fail
  rw [← HW.out]
  clear HW
  go_wp2_with fail
  refine (markByteS_int lo a1 n1 c1 1 ws _ HO.out.own (by omega) (by decide) (by decide)).mono ?_
  rintro e w2 ⟨rfl, _, hg2⟩
  have t2 : Touch lo M w1 w2 := HO.out.wrote hg2
  have HN2 : Hid (_) := touch_kept t2 HN.out (.inr (by omega))
  have HK2 : Hid (OwnKidsT D M hi w2 a2 n2 xs) := ownKids_movesT D _ _ _ _ _ _ _ _ _ HK.out (.inr (Nat.le_refl _)) t2
  clear x0 x1
  obtain ⟨x0, x1⟩ := cells2m HN2.out
  go_wp2_with fail
  refine (markS_allT D M hi a2 n2 c2 xs (1 + n1) ((1 : Int) + (n1 : Int)) _ (by omega) HK2.out (by omega)).mono ?_
  rintro e w3 ⟨rfl, _, t3⟩
  have hle := mkS_leT D xs (1 + n1)
  obtain ⟨K, hK⟩ : ∃ K : Nat, K = (mkST D xs (1 + n1)).2 := ⟨_, rfl⟩
  rw [← hK] at hle
  have HT : Hid (Touch lo hi w w3) := ((Touch.of_below hbb).trans (t2.mono (Nat.le_refl _) h2)).trans (t3.mono h1 (Nat.le_refl _))
  have HKB : Hid (K ≤ 5000000) := by show _ ≤ _; omega
  rw [← hK]
  clear x0 x1 hK hle t2 t3
  go_wp2
  go_ret
  exact ⟨K, rfl, HKB.out, HT.out⟩

end Go.Proofs.YtpnhhhhmonbajaaGreat

