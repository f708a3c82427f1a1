import Derived.Test.YtochaopoggempaaEM2
import Derived.Test.YtochaopoggempaaWMark
import Derived.Deep.DeepCutAuto
namespace Go.Proofs.Ytochaopoggempaa
open Go.RowKit

def stv (sa : Option Addr) (sn sc : Nat) (rd : Int) (ba : Option Addr) (bn bc : Nat) (tg : Int) : Value := .agg #[.slice sa sn sc, .int .i64 rd, .slice ba bn bc, .int .u64 tg]
/-- The two rows of a store that lie in blocks of their own, from B up to E. -/
structure StW (B E : Nat) (w : World) (sa : Option Addr) (sn sc : Nat) (ss : List Int) (ba : Option Addr) (bn bc : Nat) (bs : List Int) : Prop where
  sr : Row w sa sn ss
  br : Row w ba bn bs
  so : 0 < sn → Own B w sa sn sc ss
  bo : 0 < bn → Own B w ba bn bc bs
  sep : ∃ M, B ≤ M ∧ M ≤ E ∧ (In sa sn B M ∧ In ba bn M E ∨ In ba bn B M ∧ In sa sn M E)
theorem In.mono {a : Option Addr} {n lo hi lo' hi' : Nat} (h : In a n lo hi) (h1 : lo' ≤ lo) (h2 : hi ≤ hi') : In a n lo' hi' := fun b off ha hn => by have := h b off ha hn; omega
theorem StW.kept {B E : Nat} {w w' : World} {sa : Option Addr} {sn sc : Nat} {ss : List Int} {ba : Option Addr} {bn bc : Nat} {bs : List Int} (h : StW B E w sa sn sc ss ba bn bc bs) (hb : Below w.heap.size w w') : StW B E w' sa sn sc ss ba bn bc bs :=
  ⟨h.sr.kept hb, h.br.kept hb, fun hp => (h.so hp).kept hb, fun hp => (h.bo hp).kept hb, h.sep⟩
theorem StW.touch {B E lo hi : Nat} {w w' : World} {sa : Option Addr} {sn sc : Nat} {ss : List Int} {ba : Option Addr} {bn bc : Nat} {bs : List Int} (h : StW B E w sa sn sc ss ba bn bc bs) (ht : Touch lo hi w w') (hd : hi ≤ B) : StW B E w' sa sn sc ss ba bn bc bs := by
  obtain ⟨M, h1, h2, h3⟩ := h.sep
  have hs : In sa sn B E := by rcases h3 with h3 | h3; exact h3.1.mono (Nat.le_refl _) h2; exact h3.2.mono h1 (Nat.le_refl _)
  have hb : In ba bn B E := by rcases h3 with h3 | h3; exact h3.2.mono h1 (Nat.le_refl _); exact h3.1.mono (Nat.le_refl _) h2
  exact ⟨h.sr.touch hs (.inr hd) ht, h.br.touch hb (.inr hd) ht, fun hp => (h.so hp).touch hs (.inr hd) ht hp, fun hp => (h.bo hp).touch hb (.inr hd) ht hp, h.sep⟩
theorem results_so {fn : Func} {t u : Tmp} (h : fn.results = #[.cell t 29, .tmp u]) (tmps : Array Value) (g : Nat) (ht : tmps.getD t undef = .pointer (some ⟨g, 0, none⟩)) (v : Value) (hv : tmps.getD u undef = v) (w : World) (c0 c1 c2 c3 : Value)
    (hb : w.heap[g]? = some (.cells #[c0, c1, c2, c3] 29 (0, 0))) : (results fn tmps).run Try.prog w = .ok (.tuple #[.agg #[c0, c1, c2, c3], v]) w := by
  have d0 : w.cell? ⟨g, 0, none⟩ = some c0 := (cell_of_row _ g 0 _ 29 (0, 0) hb).trans rfl
  have d1 : w.cell? ⟨g, 1, none⟩ = some c1 := (cell_of_row _ g 1 _ 29 (0, 0) hb).trans rfl
  have d2 : w.cell? ⟨g, 2, none⟩ = some c2 := (cell_of_row _ g 2 _ 29 (0, 0) hb).trans rfl
  have d3 : w.cell? ⟨g, 3, none⟩ = some c3 := (cell_of_row _ g 3 _ 29 (0, 0) hb).trans rfl
  clear hb
  have ht' : tmps[t]?.getD undef = .pointer (some ⟨g, 0, none⟩) := by rw [← ht]; simp
  have hv' : tmps[u]?.getD undef = v := by rw [← hv]; simp
  simp [results, h, go_sem, ht', hv', d0, d1, d2, d3]
theorem heap_set4 {w : World} {g t : Nat} {c0 c1 c2 c3 : Value} (h : w.heap[g]? = some (.cells #[c0, c1, c2, c3] t (0, 0))) (v0 v1 v2 v3 : Value) : ((((w.setCell ⟨g, 0, none⟩ v0).setCell ⟨g, 1, none⟩ v1).setCell ⟨g, 2, none⟩ v2).setCell ⟨g, 3, none⟩ v3).heap[g]? = some (.cells #[v0, v1, v2, v3] t (0, 0)) :=
  heap_setCell_same _ _ 3 _ t _ (heap_setCell_same _ _ 2 _ t _ (heap_setCell_same _ _ 1 _ t _ (heap_setCell_same _ _ 0 _ t _ h)))

set_option maxRecDepth 10000 in
set_option maxHeartbeats 1000000 in
theorem eqStore_same (sa : Option Addr) (sn sc : Nat) (rd : Int) (ba : Option Addr) (bn bc : Nat) (tg : Int) (sa' : Option Addr) (sc' : Nat) (ba' : Option Addr) (bc' : Nat) (ss bs : List Int) (w : World)
    (h1 : Row w sa sn ss) (h2 : Row w ba bn bs) (h3 : Row w sa' sn ss) (h4 : Row w ba' bn bs) (hn : sn ≤ maxLen) (hn2 : bn ≤ maxLen) :
    Calls Try.prog 14 #[stv sa sn sc rd ba bn bc tg, stv sa' sn sc' rd ba' bn bc' tg] w fun e w' => e = .returned (.bool true) ∧ Below w.heap.size w w' := by
  obtain ⟨wb, hwb⟩ : ∃ wb, wb = (w.alloc (.cells #[.slice sa sn sc, .int .i64 rd, .slice ba bn bc, .int .u64 tg] 29)).alloc (.cells #[.slice sa' sn sc', .int .i64 rd, .slice ba' bn bc', .int .u64 tg] 29) := ⟨_, rfl⟩
  have hbb : Below w.heap.size w wb := by rw [hwb]; exact ((Below.refl _ _).alloc (Nat.le_refl _) _).alloc (by simp) _
  have s1 : (w.alloc (.cells #[.slice sa sn sc, .int .i64 rd, .slice ba bn bc, .int .u64 tg] 29)).heap.size = w.heap.size + 1 := by simp
  have B0 : wb.heap[w.heap.size]? = some (.cells #[.slice sa sn sc, .int .i64 rd, .slice ba bn bc, .int .u64 tg] 29) := by rw [hwb]; exact (heap_alloc_old _ _ (by simp)).trans (heap_alloc_new w _)
  have B1 : wb.heap[w.heap.size + 1]? = some (.cells #[.slice sa' sn sc', .int .i64 rd, .slice ba' bn bc', .int .u64 tg] 29) := by rw [hwb, ← s1]; exact heap_alloc_new _ _
  have HXD : Hid (∀ w7, Below wb.heap.size wb w7 → (w7.cell? ⟨w.heap.size, 0, none⟩ = some (.slice sa sn sc) ∧ w7.cell? ⟨w.heap.size, 1, none⟩ = some (.int .i64 rd) ∧ w7.cell? ⟨w.heap.size, 2, none⟩ = some (.slice ba bn bc) ∧ w7.cell? ⟨w.heap.size, 3, none⟩ = some (.int .u64 tg)) ∧ w7.cell? ⟨w.heap.size + 1, 0, none⟩ = some (.slice sa' sn sc') ∧ w7.cell? ⟨w.heap.size + 1, 1, none⟩ = some (.int .i64 rd) ∧ w7.cell? ⟨w.heap.size + 1, 2, none⟩ = some (.slice ba' bn bc') ∧ w7.cell? ⟨w.heap.size + 1, 3, none⟩ = some (.int .u64 tg)) := by
    intro w7 h7
    have e0 := (h7.block _ (Array.getElem?_eq_some_iff.1 B0).1).trans B0
    have e1 := (h7.block _ (Array.getElem?_eq_some_iff.1 B1).1).trans B1
    exact ⟨⟨(cell_of_row _ _ 0 _ 29 (0, 0) e0).trans rfl, (cell_of_row _ _ 1 _ 29 (0, 0) e0).trans rfl, (cell_of_row _ _ 2 _ 29 (0, 0) e0).trans rfl, (cell_of_row _ _ 3 _ 29 (0, 0) e0).trans rfl⟩, (cell_of_row _ _ 0 _ 29 (0, 0) e1).trans rfl, (cell_of_row _ _ 1 _ 29 (0, 0) e1).trans rfl, (cell_of_row _ _ 2 _ 29 (0, 0) e1).trans rfl, (cell_of_row _ _ 3 _ 29 (0, 0) e1).trans rfl⟩
  have HW : Hid (_ = _) := hwb
  have H1 : Hid (_) := h1
  have H2 : Hid (_) := h2
  have H3 : Hid (_) := h3
  have H4 : Hid (_) := h4
  clear hwb B0 B1 h1 h2 h3 h4 s1
  have z : (rd != rd) = false := by simp
  have z' : (tg != tg) = false := by simp
  obtain ⟨⟨p0, p1, p2, p3⟩, q0, q1, q2, q3⟩ := HXD.out _ (Below.refl _ _)
  rw [stv, stv]
  go_enter Try.func14, Try.ntmps14
  go_upto_region 1 with fail
  rw [← HW.out]
  clear HW
  go_wp2_with fail
  refine (eqByteS_any sa sa' sn sn sc sc' ss ss _ (H1.out.kept hbb) (H3.out.kept hbb) hn hn).mono ?_
  rintro e w2 ⟨rfl, hb2⟩
  rw [decide_eq_true (rfl : ss = ss)]
  clear p0 p1 p2 p3 q0 q1 q2 q3
  obtain ⟨⟨p0, p1, p2, p3⟩, q0, q1, q2, q3⟩ := HXD.out _ hb2
  have hB2 := keepT hbb hb2
  go_wp2_with fail
  refine (eqByteS_any ba ba' bn bn bc bc' bs bs _ (H2.out.kept hB2) (H4.out.kept hB2) hn2 hn2).mono ?_
  rintro e w3 ⟨rfl, hb3⟩
  rw [decide_eq_true (rfl : bs = bs)]
  clear p0 p1 p2 p3 q0 q1 q2 q3
  obtain ⟨⟨p0, p1, p2, p3⟩, q0, q1, q2, q3⟩ := HXD.out _ (keepT hb2 hb3)
  go_wp2
  go_ret
  exact ⟨rfl, keepT hB2 hb3⟩

set_option maxRecDepth 10000 in
set_option maxHeartbeats 1000000 in
theorem markStore_any (B E : Nat) (sa : Option Addr) (sn sc : Nat) (rd : Int) (ba : Option Addr) (bn bc : Nat) (tg : Int) (ss bs : List Int) (w : World) (h : StW B E w sa sn sc ss ba bn bc bs) (hE : E ≤ w.heap.size) (hn : sn ≤ 10000000) (hn2 : bn ≤ 10000000) :
    Calls Try.prog 16 #[stv sa sn sc rd ba bn bc tg, .int .i64 1] w fun e w' => e = .returned (.int .i64 (1 + sn + bn)) ∧ Row w' sa sn (marks 1 sn) ∧ Row w' ba bn (marks (1 + sn) bn) ∧ Touch B E w w' := by
  obtain ⟨M, hM1, hM2, hM⟩ := h.sep
  obtain ⟨wb, hwb⟩ : ∃ wb, wb = w.alloc (.cells #[.slice sa sn sc, .int .i64 rd, .slice ba bn bc, .int .u64 tg] 29) := ⟨_, rfl⟩
  have hbb : Below w.heap.size w wb := by rw [hwb]; exact (Below.refl _ _).alloc (Nat.le_refl _) _
  have hl0 : w.heap.size < wb.heap.size := by rw [hwb]; simp
  have B0 : wb.heap[w.heap.size]? = some (.cells #[.slice sa sn sc, .int .i64 rd, .slice ba bn bc, .int .u64 tg] 29) := by rw [hwb]; exact heap_alloc_new w _
  have p0 : wb.cell? ⟨w.heap.size, 0, none⟩ = some (.slice sa sn sc) := (cell_of_row _ _ 0 _ 29 (0, 0) B0).trans rfl
  have HB2 : Hid (∀ w7, Touch B E wb w7 → w7.cell? ⟨w.heap.size, 2, none⟩ = some (.slice ba bn bc)) := fun w7 h7 => (cell_of_row _ _ 2 _ 29 (0, 0) ((h7.block _ hl0 (.inr hE)).trans B0)).trans rfl
  have HW : Hid (_ = _) := hwb
  have HS : Hid (In sa sn B M ∧ In ba bn M E ∨ In ba bn B M ∧ In sa sn M E) := hM
  have H : Hid (StW B E wb sa sn sc ss ba bn bc bs) := h.kept hbb
  clear hwb B0 hM h
  rw [stv]
  go_enter Try.func16, Try.ntmps16
  go_upto_region 1 with fail
  rw [← HW.out]
  clear HW
  go_wp2_with fail
  refine (markByteS_t B sa sn sc 1 ss _ H.out.so (by omega) (by decide) (by decide)).mono ?_
  rintro e w2 ⟨rfl, _, hr2, ht2⟩
  have T2 : Touch B E wb w2 := by
    rcases HS.out with ⟨h1, _⟩ | ⟨_, h1⟩
    · exact (ht2 _ _ h1).mono (Nat.le_refl _) hM2
    · exact (ht2 _ _ h1).mono hM1 (Nat.le_refl _)
  have HO2 : Hid (0 < bn → Own B w2 ba bn bc bs) := fun hp => by
    rcases HS.out with ⟨h1, h2⟩ | ⟨h2, h1⟩
    · exact (H.out.bo hp).touch h2 (.inr (Nat.le_refl _)) (ht2 _ _ h1) hp
    · exact (H.out.bo hp).touch h2 (.inl (Nat.le_refl _)) (ht2 _ _ h1) hp
  have p2 := HB2.out _ T2
  have HR2 : Hid (Row w2 sa sn (marks 1 sn)) := hr2
  clear hr2 ht2 p0 HB2
  go_wp2_with fail
  refine (markByteS_t B ba bn bc (1 + sn) bs _ HO2.out (by omega) (by omega) (by omega)).mono ?_
  rintro e w3 ⟨rfl, _, hr3, ht3⟩
  have T3 : Touch B E wb w3 ∧ Row w3 sa sn (marks 1 sn) := by
    rcases HS.out with ⟨h1, h2⟩ | ⟨h2, h1⟩
    · exact ⟨T2.trans ((ht3 _ _ h2).mono hM1 (Nat.le_refl _)), HR2.out.touch h1 (.inl (Nat.le_refl _)) (ht3 _ _ h2)⟩
    · exact ⟨T2.trans ((ht3 _ _ h2).mono (Nat.le_refl _) hM2), HR2.out.touch h1 (.inr (Nat.le_refl _)) (ht3 _ _ h2)⟩
  have e1 : ((1 : Int) + (sn : Int)).toNat = 1 + sn := by omega
  rw [e1] at hr3
  clear e1 ht3
  go_wp2
  go_ret
  exact ⟨rfl, T3.2, hr3, (Touch.of_below hbb).trans T3.1⟩

set_option maxRecDepth 10000 in
set_option maxHeartbeats 1000000 in
theorem heldStore_any (sa : Option Addr) (sn sc : Nat) (rd : Int) (ba : Option Addr) (bn bc : Nat) (tg : Int) (w : World) (h1 : Row w sa sn (marks 1 sn)) (h2 : Row w ba bn (marks (1 + sn) bn)) (hn : sn ≤ 10000000) (hn2 : bn ≤ 10000000) :
    Calls Try.prog 17 #[stv sa sn sc rd ba bn bc tg, .int .i64 1] w fun e w' => e = .returned (.int .i64 (1 + sn + bn)) ∧ Below w.heap.size w w' := by
  obtain ⟨wb, hwb⟩ : ∃ wb, wb = w.alloc (.cells #[.slice sa sn sc, .int .i64 rd, .slice ba bn bc, .int .u64 tg] 29) := ⟨_, rfl⟩
  have hbb : Below w.heap.size w wb := by rw [hwb]; exact (Below.refl _ _).alloc (Nat.le_refl _) _
  have B0 : wb.heap[w.heap.size]? = some (.cells #[.slice sa sn sc, .int .i64 rd, .slice ba bn bc, .int .u64 tg] 29) := by rw [hwb]; exact heap_alloc_new w _
  have p0 : wb.cell? ⟨w.heap.size, 0, none⟩ = some (.slice sa sn sc) := (cell_of_row _ _ 0 _ 29 (0, 0) B0).trans rfl
  have p2 : wb.cell? ⟨w.heap.size, 2, none⟩ = some (.slice ba bn bc) := (cell_of_row _ _ 2 _ 29 (0, 0) B0).trans rfl
  have HW : Hid (_ = _) := hwb
  have H1 : Hid (Row wb sa sn (marks 1 sn)) := h1.kept hbb
  have H2 : Hid (Row wb ba bn (marks (1 + (sn : Int)).toNat bn)) := by
    have e1 : ((1 : Int) + (sn : Int)).toNat = 1 + sn := by omega
    rw [e1]; exact h2.kept hbb
  clear hwb B0 h1 h2
  have z1 : ¬ (1 + (sn : Int) < 0) := by omega
  have z2 : ¬ (1 + (sn : Int) + (bn : Int) < 0) := by omega
  rw [stv]
  go_enter Try.func17, Try.ntmps17
  go_upto_region 1 with fail
  rw [← HW.out]
  clear HW
  go_wp2_with fail
  refine (heldByteS_int sa sn sc 1 _ H1.out (by omega) (by decide) (by decide)).mono ?_
  rintro e w2 ⟨rfl, hw⟩
  have hw2 := hw.symm
  subst hw2
  go_wp2_with fail
  refine (heldByteS_int ba bn bc (1 + sn) _ H2.out (by omega) (by omega) (by omega)).mono ?_
  rintro e w3 ⟨rfl, hw⟩
  have hw2 := hw.symm
  subst hw2
  go_wp2
  go_ret
  exact ⟨rfl, hbb⟩

end Go.Proofs.Ytochaopoggempaa
