import Derived.Test.YtlcojjcgaibbiaaTR6
import Derived.Test.YtlcojjcgaibbiaaTB0b
import Derived.Test.YtlcojjcgaibbiaaRJ
set_option linter.unusedVariables false
namespace Go.Proofs.Ytlcojjcgaibbiaa
open Go.RowKit Go.Sort

def SaysG (P : Prop) (w : World) (e : Ending) (w' : World) : Prop := ∃ b, e = .returned (.bool b) ∧ Hid (b = true ↔ P) ∧ Below w.heap.size w w'
theorem saysG_t {P : Prop} {w w' : World} (h : P) (hb : Below w.heap.size w w') : SaysG P w (.returned (.bool true)) w' := ⟨true, rfl, ⟨fun _ => h, fun _ => rfl⟩, hb⟩
theorem saysG_f {P : Prop} {w w' : World} (h : ¬ P) (hb : Below w.heap.size w w') : SaysG P w (.returned (.bool false)) w' := ⟨false, rfl, ⟨fun e => (by cases e), fun e => absurd e h⟩, hb⟩
/-- Signers that are right, so many levels deep. -/
def okS : Nat → List ItT → Prop
  | 0, xs => xs.length = 0
  | d + 1, xs => xs.length ≤ 6 ∧ ∀ k, k < xs.length → timP (xs.getD k default).at2 ∧ (xs.getD k default).sg.length ≤ 500 ∧ okS d (xs.getD k default).over
def elP (d : Nat) (x : ItT) : Prop := timP x.at2 ∧ x.sg.length ≤ 500 ∧ okS d x.over
def AllEl (d : Nat) (xs : List ItT) (n : Nat) : Prop := ∀ k, k < n → elP d (xs.getD k default)
theorem okS_succ (d : Nat) (xs : List ItT) (n : Nat) (h : xs.length = n) : okS (d + 1) xs ↔ n ≤ 6 ∧ AllEl d xs n := by subst h; exact Iff.rfl
theorem cells4g {W : World} {g : Nat} {x y z u : Value} {t : TypeId} (h : W.heap[g]? = some (.cells #[x, y, z, u] t (0, 0))) : W.cell? ⟨g, 0, none⟩ = some x ∧ W.cell? ⟨g, 1, none⟩ = some y ∧ W.cell? ⟨g, 2, none⟩ = some z ∧ W.cell? ⟨g, 3, none⟩ = some u :=
  ⟨(cell_of_row _ _ 0 _ t (0, 0) h).trans rfl, (cell_of_row _ _ 1 _ t (0, 0) h).trans rfl, (cell_of_row _ _ 2 _ t (0, 0) h).trans rfl, (cell_of_row _ _ 3 _ t (0, 0) h).trans rfl⟩
theorem cells2m {W : World} {g : Nat} {x y : Value} {t : TypeId} (h : W.heap[g]? = some (.cells #[x, y] t (0, 0))) : W.cell? ⟨g, 0, none⟩ = some x ∧ W.cell? ⟨g, 1, none⟩ = some y :=
  ⟨(cell_of_row _ _ 0 _ t (0, 0) h).trans rfl, (cell_of_row _ _ 1 _ t (0, 0) h).trans rfl⟩
theorem KidsT.len {d : Nat} {w : World} {a : Option Addr} {n : Nat} {xs : List ItT} (h : KidsT d w a n xs) : xs.length = n ∧ n ≤ 9223372036854775807 := by
  cases d with
  | zero => exact h.elim
  | succ d => exact ⟨h.1, h.2.1⟩

def SgOk (d : Nat) : Prop := ∀ (L : Int) (D : Nat) (a : Option Addr) (n c : Nat) (xs : List ItT) (w : World), L = d → KidsT D w a n xs → Calls Try.prog 40 #[.slice a n c, .int .i64 L] w (SaysG (okS d xs) w)

set_option maxRecDepth 10000 in
set_option maxHeartbeats 2000000 in
theorem sgClosure_any (d : Nat) (hd : d ≤ 10) (ih : SgOk d) (D : Nat) (x : ItT) (ab : Option Addr) (nb cb : Nat) (ak : Option Addr) (nk ck : Nat) (g : Nat) (w : World) (hg : g < w.heap.size) (cg : w.cell? ⟨g, 0, none⟩ = some (.int .i64 ((d : Int) + 1))) (hl : x.sg.length = nb) (hnb : nb ≤ 9223372036854775807) (hk : KidsT D w ak nk x.over) :
    Calls Try.prog 58 #[.agg #[.int .u64 x.ky, .int .i64 x.at2, .slice ab nb cb, .slice ak nk ck], .pointer (some ⟨g, 0, none⟩)] w (SaysG (elP d x) w) := by
  obtain ⟨wb, hwb⟩ : ∃ wb, wb = w.alloc (.cells #[.int .u64 x.ky, .int .i64 x.at2, .slice ab nb cb, .slice ak nk ck] 59) := ⟨_, rfl⟩
  have hbb : Below w.heap.size w wb := by rw [hwb]; exact (Below.refl _ _).alloc (Nat.le_refl _) _
  have hblk : wb.heap[w.heap.size]? = some (.cells #[.int .u64 x.ky, .int .i64 x.at2, .slice ab nb cb, .slice ak nk ck] 59 (0, 0)) := by rw [hwb]; exact heap_alloc_new w _
  obtain ⟨c0, c1, c2, c3⟩ := cells4g hblk
  have cgb : wb.cell? ⟨g, 0, none⟩ = some (.int .i64 ((d : Int) + 1)) := (hbb.cell (p := ⟨g, 0, none⟩) hg).trans cg
  have HK : Hid (KidsT D wb ak nk x.over) := hk.kept hbb
  have HW : Hid (_ = _) := hwb
  have HL : Hid (x.sg.length = nb) := hl
  clear hwb hblk cg hk hl
  go_enter Try.func58, Try.ntmps58
  go_upto_region 1 with fail
  rw [← HW.out]
  clear HW
  go_wp2_with fail
  refine (isTim_any x.at2 _).mono ?_
  rintro e w2 ⟨rfl, hw2⟩
  have hw2 := hw2.symm
  subst hw2
  by_cases h1 : timP x.at2
  case neg =>
    rw [decide_eq_false h1]
    have HN : Hid (¬ elP d x) := fun h => h1 h.1
    clear h1
    go_wp2
    go_ret
    exact saysG_f HN.out hbb
  rw [decide_eq_true h1]
  have H1 : Hid (timP x.at2) := h1
  clear h1
  by_cases h2 : nb ≤ 500
  case neg =>
    have q2 : ¬ (nb : Int) ≤ 500 := by omega
    have HN : Hid (¬ elP d x) := fun h => h2 (by have := h.2.1; rw [HL.out] at this; exact this)
    clear h2
    go_wp2
    go_ret
    exact saysG_f HN.out hbb
  have q2 : (nb : Int) ≤ 500 := by omega
  go_wp2_with fail
  refine (ih _ D ak nk ck x.over _ (by first | omega | (simp; omega) | simp) HK.out).mono ?_
  rintro e w3 ⟨b, rfl, HB, hb3⟩
  have hB := keepT hbb hb3
  clear c0 c1 c2 c3 cgb
  cases b with
  | true =>
    have HP : Hid (elP d x) := ⟨H1.out, by rw [HL.out]; exact h2, HB.out.1 rfl⟩
    go_wp2
    go_ret
    exact saysG_t HP.out hB
  | false =>
    have HP : Hid (¬ elP d x) := fun h => by have := HB.out.2 h.2.2; cases this
    go_wp2
    go_ret
    exact saysG_f HP.out hB

set_option maxRecDepth 10000 in
set_option maxHeartbeats 2000000 in
theorem everySigner_any (d : Nat) (hd : d ≤ 10) (ih : SgOk d) (D : Nat) (a : Option Addr) (n c : Nat) (xs : List ItT) (g : Nat) (w : World) (hg : g < w.heap.size) (cg : w.cell? ⟨g, 0, none⟩ = some (.int .i64 ((d : Int) + 1))) (h : KidsT D w a n xs) :
    Calls Try.prog 57 #[.slice a n c, .func (Fn.func 58) #[] #[.pointer (some ⟨g, 0, none⟩)]] w (SaysG (AllEl d xs n) w) := by
  obtain ⟨D, rfl⟩ : ∃ D', D = D' + 1 := by
    cases D with
    | zero => exact h.elim
    | succ D => exact ⟨D, rfl⟩
  have H0 : Hid (KidsT (D + 1) w a n xs) := h
  have HCG : Hid (w.cell? ⟨g, 0, none⟩ = some (.int .i64 ((d : Int) + 1))) := cg
  have hn := h.2.1
  clear h cg
  go_enter Try.func57, Try.ntmps57
  go_wp2
  go_loopw [9] (fun i wr => ∃ k : Nat, k ≤ n ∧ i = .int .i64 k ∧ Hid (AllEl d xs k) ∧ Below w.heap.size w wr) (fun i _ => n - (intOf i).toNat)
  case atStart => exact ⟨0, Nat.zero_le _, rfl, fun k hk => absurd hk (Nat.not_lt_zero _), Below.refl _ _⟩
  case round =>
    obtain ⟨k, hk, rfl, HE, hbr⟩ := hrel
    have hws := hbr.size
    by_cases hlt : k < n
    · obtain ⟨b, off, rfl, hlb, ab, nb, cb, ak, nk, ck, c0, c1, c2, c3, hr, hnil, hnb, hu, hkk⟩ := H0.out.2.2 k hlt
      obtain ⟨y, hy⟩ : ∃ y, y = xs.getD k default := ⟨_, rfl⟩
      rw [← hy] at c0 c1 hr hkk
      have HY : Hid (y = xs.getD k default) := hy
      have cc : ∀ j, wr.cell? ⟨b, j, none⟩ = w.cell? ⟨b, j, none⟩ := fun j => hbr.cell (p := ⟨b, j, none⟩) hlb
      rw [← cc] at c0 c1 c2 c3
      have hkni : (k : Int) < (n : Int) := by omega
      have hbw : b < wr.heap.size := by omega
      have hbz : Below wr.heap.size wr (wr.alloc (.cells #[.int .u64 y.ky, .int .i64 y.at2, .slice ab nb cb, .slice ak nk ck] 59)) := (Below.refl _ _).alloc (Nat.le_refl _) _
      have HC : Hid (∀ W, Below w.heap.size w W → Calls Try.prog 58 #[.agg #[.int .u64 y.ky, .int .i64 y.at2, .slice ab nb cb, .slice ak nk ck], .pointer (some ⟨g, 0, none⟩)] W (SaysG (elP d y) W)) := fun W hW => sgClosure_any d hd ih D y ab nb cb ak nk ck g W (Nat.lt_of_lt_of_le hg hW.size) ((hW.cell (p := ⟨g, 0, none⟩) hg).trans HCG.out) hr.len hnb (hkk.kept hW)
      clear cc hy hr hkk
      go_wp2_with fail
      refine (HC.out _ (keepT hbr hbz)).mono ?_
      rintro e w2 ⟨bb, rfl, hbi, hb2⟩
      have B2 : Below w.heap.size w w2 := hbr.trans ((keepT hbz hb2).mono hws)
      clear c0 c1 c2 c3
      cases bb with
      | true =>
        have HP : Hid (elP d y) := hbi.out.1 rfl
        clear hbi
        go_wp2
        go_roundw
        case rel => exact ⟨k + 1, by omega, by go_num, fun j hj => by
          by_cases e : j < k
          · exact HE.out j e
          · obtain rfl : j = k := by omega
            rw [← HY.out]; exact HP.out, B2⟩
        case measure => simp [intOf]; omega
      | false =>
        have HP : Hid (¬ elP d y) := fun h => by have := hbi.out.2 h; cases this
        clear hbi
        go_wp2
        go_ret
        exact saysG_f (fun e => HP.out (by rw [HY.out]; exact e k hlt)) B2
    · obtain rfl : k = n := by omega
      go_wp2
      go_ret
      exact saysG_t HE.out hbr

set_option maxRecDepth 10000 in
set_option maxHeartbeats 2000000 in
theorem signersOk_zero : SgOk 0 := by
  intro L D a n c xs w hL hk
  obtain rfl : L = 0 := hL
  obtain ⟨hlen, hn⟩ := hk.len
  clear hk
  have hb : Below w.heap.size w (w.alloc (.cells #[.int .i64 0] 3)) := (Below.refl _ _).alloc (Nat.le_refl _) _
  by_cases h0 : n = 0
  · subst h0
    go_enter Try.func40, Try.ntmps40
    go_wp2
    go_ret
    exact saysG_t hlen hb
  · have q0 : ((n : Int) == 0) = false := by simp [h0]
    have HN : Hid (¬ okS 0 xs) := fun h => h0 (hlen.symm.trans h)
    go_enter Try.func40, Try.ntmps40
    go_wp2
    go_ret
    exact saysG_f HN.out hb

set_option maxRecDepth 10000 in
set_option maxHeartbeats 2000000 in
theorem signersOk_next (d : Nat) (hd : d ≤ 10) (ih : SgOk d) : SgOk (d + 1) := by
  intro L D a n c xs w hL hk
  obtain rfl : L = (d : Int) + 1 := by omega
  clear hL
  obtain ⟨hlen, hn⟩ := hk.len
  obtain ⟨wb, hwb⟩ : ∃ wb, wb = w.alloc (.cells #[.int .i64 ((d : Int) + 1)] 3) := ⟨_, rfl⟩
  have hbb : Below w.heap.size w wb := by rw [hwb]; exact (Below.refl _ _).alloc (Nat.le_refl _) _
  have hblk : wb.heap[w.heap.size]? = some (.cells #[.int .i64 ((d : Int) + 1)] 3 (0, 0)) := by rw [hwb]; exact heap_alloc_new w _
  have cg : wb.cell? ⟨w.heap.size, 0, none⟩ = some (.int .i64 ((d : Int) + 1)) := (cell_of_row _ _ 0 _ 3 (0, 0) hblk).trans rfl
  have hgl : w.heap.size < wb.heap.size := (Array.getElem?_eq_some_iff.1 hblk).1
  have HK : Hid (KidsT D wb a n xs) := hk.kept hbb
  have HS : Hid (okS (d + 1) xs ↔ n ≤ 6 ∧ AllEl d xs n) := okS_succ d xs n hlen
  have qd : ((d : Int) + 1 == 0) = false := by simp; omega
  have HW : Hid (_ = _) := hwb
  clear hwb hblk hk
  go_enter Try.func40, Try.ntmps40
  go_upto_region 1 with fail
  rw [← HW.out]
  clear HW
  by_cases h6 : n ≤ 6
  case neg =>
    have q6 : ¬ (n : Int) ≤ 6 := by omega
    have HN : Hid (¬ okS (d + 1) xs) := fun h => h6 (HS.out.1 h).1
    clear h6
    go_wp2
    go_ret
    exact saysG_f HN.out hbb
  have q6 : (n : Int) ≤ 6 := by omega
  go_wp2_with fail
  refine (everySigner_any d hd ih D a n c xs w.heap.size _ hgl cg HK.out).mono ?_
  rintro e w3 ⟨b, rfl, HB, hb3⟩
  have hB := keepT hbb hb3
  clear cg
  cases b with
  | true =>
    have HP : Hid (okS (d + 1) xs) := HS.out.2 ⟨h6, HB.out.1 rfl⟩
    go_wp2
    go_ret
    exact saysG_t HP.out hB
  | false =>
    have HP : Hid (¬ okS (d + 1) xs) := fun h => by have := HB.out.2 (HS.out.1 h).2; cases this
    go_wp2
    go_ret
    exact saysG_f HP.out hB

theorem signersOk_two : SgOk 2 := signersOk_next 1 (by decide) (signersOk_next 0 (by decide) signersOk_zero)
def msgP (n : Nat) (xs : List ItT) : Prop := n ≤ 4000 ∧ okS 2 xs

set_option maxRecDepth 10000 in
set_option maxHeartbeats 2000000 in
theorem isRight_any (D : Nat) (am : Option Addr) (nn cm : Nat) (a : Option Addr) (n c : Nat) (xs : List ItT) (w : World) (hnn : nn ≤ 9223372036854775807) (hk : KidsT D w a n xs) :
    Calls Try.prog 20 #[.agg #[.slice am nn cm, .slice a n c]] w (SaysG (msgP nn xs) w) := by
  obtain ⟨wb, hwb⟩ : ∃ wb, wb = w.alloc (.cells #[.slice am nn cm, .slice a n c] 31) := ⟨_, rfl⟩
  have hbb : Below w.heap.size w wb := by rw [hwb]; exact (Below.refl _ _).alloc (Nat.le_refl _) _
  have hblk : wb.heap[w.heap.size]? = some (.cells #[.slice am nn cm, .slice a n c] 31 (0, 0)) := by rw [hwb]; exact heap_alloc_new w _
  obtain ⟨c0, c1⟩ := cells2m hblk
  have HK : Hid (KidsT D wb a n xs) := hk.kept hbb
  have HW : Hid (_ = _) := hwb
  clear hwb hblk hk
  go_enter Try.func20, Try.ntmps20
  go_upto_region 1 with fail
  rw [← HW.out]
  clear HW
  by_cases h1 : nn ≤ 4000
  case neg =>
    have q1 : ¬ (nn : Int) ≤ 4000 := by omega
    have HN : Hid (¬ msgP nn xs) := fun h => h1 h.1
    go_wp2
    go_ret
    exact saysG_f HN.out hbb
  have q1 : (nn : Int) ≤ 4000 := by omega
  go_wp2_with fail
  refine (signersOk_two 2 D a n c xs _ rfl HK.out).mono ?_
  rintro e w3 ⟨b, rfl, HB, hb3⟩
  have hB := keepT hbb hb3
  clear c0 c1
  cases b with
  | true =>
    have HP : Hid (msgP nn xs) := ⟨h1, HB.out.1 rfl⟩
    go_wp2
    go_ret
    exact saysG_t HP.out hB
  | false =>
    have HP : Hid (¬ msgP nn xs) := fun h => by have := HB.out.2 h.2; cases this
    go_wp2
    go_ret
    exact saysG_f HP.out hB

end Go.Proofs.Ytlcojjcgaibbiaa
