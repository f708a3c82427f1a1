import Derived.Test.YtcgmcdelgfemkaaEM2
import Derived.Test.YtcgmcdelgfemkaaEPB
import Derived.Test.YtcgmcdelgfemkaaERW
import Derived.Test.YtcgmcdelgfemkaaERP
import Derived.Deep.DeepCutAuto
namespace Go.Proofs.Ytcgmcdelgfemkaa
open Go.RowKit

def wrN (sh id : Int) : Int := triN wrX (putI sh) (eightI id)
def ctN (eph : Int) (bs : List Int) : Int := triN ctX (putI eph) bs
def kidP (p : Int × Int × Int) : Int := kidN p.1 p.2.1 p.2.2
def wrapP (k eph : Int) (p : Int × Int × Int) : Int × Int := (kidP p, bits .xor .u64 k (wrN (gp p.2.1 eph) (kidP p)))
def grpK (p : Int × Int × Int) : Prop := p.1 = 1 ∧ pubP p.1 p.2.1 p.2.2
theorem grpK_y {p : Int × Int × Int} (h : grpK p) : 2 ≤ p.2.1 ∧ p.2.1 ≤ 1000000006 := by
  obtain ⟨h1, h2⟩ := h
  rcases h2 with ⟨_, h3⟩ | ⟨h3, _⟩
  · exact keyP_lt h3.1
  · omega
def AllG (ps : List (Int × Int × Int)) (n : Nat) : Prop := ∀ j, j < n → grpK (ps.getD j (0, 0, 0))
def SaysE (P : Prop) (w : World) (e : Ending) (w' : World) : Prop := ∃ b, e = .returned (.bool b) ∧ Hid (b = true ↔ P) ∧ Below w.heap.size w w'
theorem saysE_t {P : Prop} {w w' : World} (h : P) (hb : Below w.heap.size w w') : SaysE P w (.returned (.bool true)) w' := ⟨true, rfl, ⟨fun _ => h, fun _ => rfl⟩, hb⟩
theorem saysE_f {P : Prop} {w w' : World} (h : ¬ P) (hb : Below w.heap.size w w') : SaysE P w (.returned (.bool false)) w' := ⟨false, rfl, ⟨fun e => (by cases e), fun e => absurd e h⟩, hb⟩
theorem xorU_range (x y : Int) : 0 ≤ bits .xor .u64 x y ∧ bits .xor .u64 x y ≤ 18446744073709551615 := by
  unfold bits
  simp only [IntKind.wrap_u64]
  omega

theorem u64_xor_range (x y : Int) : U64 (bits .xor .u64 x y) := by
  have := xorU_range x y
  exact this
theorem kidP_bd (p : Int × Int × Int) : U64 (kidP p) := by unfold kidP kidN; exact hashL_bd _
theorem wrapP_bd (k eph : Int) (p : Int × Int × Int) : U64 (wrapP k eph p).1 ∧ U64 (wrapP k eph p).2 := ⟨kidP_bd p, u64_xor_range _ _⟩

set_option maxRecDepth 10000 in
set_option maxHeartbeats 1000000 in
theorem wrapMask_any (sh id : Int) (w : World) (hs : sh ≤ 9223372036854775807) (hi : U64 id) :
    Calls Try.prog 46 #[.int .i64 sh, .int .u64 id] w fun e w' => e = .returned (.int .u64 (wrN sh id)) ∧ Below w.heap.size w w' := by
  have HI : Hid (U64 id) := hi
  have HT : Hid (total [wrX, putI sh, eightI id] ≤ 2097152) := by
    show _ ≤ _
    have h1 := putI_len sh hs
    refine tri_total _ _ _ ?_
    rw [eightI_len]
    simp only [wrX, List.length_cons, List.length_nil]; omega
  clear hi
  have hcv := Lib.run_convert_bytes_const (P := Try.prog) w 22 5 #[.int .u8 119, .int .u8 114, .int .u8 97, .int .u8 112] 4 4 Try.underlying22 Try.underlying5
  have hrw : Row (w.alloc (.cells #[.int .u8 119, .int .u8 114, .int .u8 97, .int .u8 112] 5 (4, 5))) (some ⟨w.heap.size, 0, none⟩) 4 wrX := row_word w wrX (4, 5) wrX_byte
  have hb0 : Below w.heap.size w (w.alloc (.cells #[.int .u8 119, .int .u8 114, .int .u8 97, .int .u8 112] 5 (4, 5))) := (Below.refl _ _).alloc (Nat.le_refl _) _
  go_enter Try.func46, Try.ntmps46
  go_wp2_with fail
  clear hcv
  obtain ⟨w0, hw0⟩ : ∃ w0, w0 = w.alloc (.cells #[.int .u8 119, .int .u8 114, .int .u8 97, .int .u8 112] 5 (4, 5)) := ⟨_, rfl⟩
  rw [← hw0] at hrw hb0 ⊢
  clear hw0
  refine (implPutNum_any sh _ hs).mono ?_
  rintro e w1 ⟨a1, c1, rfl, ho1, hb1⟩
  obtain ⟨m1, hm1⟩ : ∃ m1, m1 = (putI sh).length := ⟨_, rfl⟩
  rw [← hm1] at ho1 ⊢
  clear hm1
  go_wp2_with fail
  refine (digestBytes_any id _ HI.out.1 HI.out.2).mono ?_
  rintro e w2 ⟨g2, rfl, hr2, _, hb2⟩
  have he2 : (some (⟨g2, 0, none⟩ : Addr)) = none → 8 = 0 := (fun h => by cases h)
  have B2 : Below w.heap.size w w2 := keepT (keepT hb0 hb1) hb2
  have HRS : Hid (Rows2 (w2.alloc (.cells #[.slice (some ⟨w.heap.size, 0, none⟩) 4 4, .slice a1 m1 c1, .slice (some ⟨g2, 0, none⟩) 8 8] 22)) (some ⟨w2.heap.size, 0, none⟩) 3 [wrX, putI sh, eightI id]) :=
    tri_rows w2 22 _ _ _ _ _ _ _ _ _ _ _ _ ((hrw.kept hb1).kept hb2) (fun h => by cases h) (ho1.kept hb2).toRow ho1.nil hr2 he2
  have B3 : Below w.heap.size w (w2.alloc (.cells #[.slice (some ⟨w.heap.size, 0, none⟩) 4 4, .slice a1 m1 c1, .slice (some ⟨g2, 0, none⟩) 8 8] 22)) := B2.alloc B2.size _
  clear hr2 he2 hrw ho1
  go_wp2_with fail
  refine (implHashParts_any _ 3 3 [wrX, putI sh, eightI id] _ HRS.out (by decide) HT.out).mono ?_
  rintro e w3 ⟨rfl, hb3⟩
  go_wp2
  go_ret
  exact ⟨rfl, keepT B3 hb3⟩

set_option maxRecDepth 10000 in
set_option maxHeartbeats 1000000 in
theorem isGroupKey_any (p : Int × Int × Int) (w : World) (hy : U64 p.2.1) :
    Calls Try.prog 39 #[.agg #[.int .i64 p.1, .int .u64 p.2.1, .int .i64 p.2.2]] w (SaysE (grpK p) w) := by
  obtain ⟨sc, y, h⟩ := p
  have HY : Hid (U64 y) := hy
  clear hy
  have PO := fun W => pubOk_any sc y h W HY.out
  unfold kpv at PO
  have hbb : Below w.heap.size w (w.alloc (.cells #[.int .i64 sc, .int .u64 y, .int .i64 h] 48)) := (Below.refl _ _).alloc (Nat.le_refl _) _
  by_cases h1 : sc = 1
  · have z1 : (sc == 1) = true := by simpa using h1
    have H1 : Hid (sc = 1) := h1
    clear h1
    by_cases hp : pubP sc y h
    · have HP : Hid (grpK (sc, y, h)) := ⟨H1.out, hp⟩
      rw [decide_eq_true hp] at PO
      clear hp H1
      go_enter Try.func39, Try.ntmps39
      go_wp2_with fail
      refine (PO _).mono ?_
      rintro e w2 ⟨rfl, hb2⟩
      go_wp2
      go_ret
      exact saysE_t HP.out (keepT hbb hb2)
    · have HP : Hid (¬ grpK (sc, y, h)) := fun a => hp a.2
      rw [decide_eq_false hp] at PO
      clear hp H1
      go_enter Try.func39, Try.ntmps39
      go_wp2_with fail
      refine (PO _).mono ?_
      rintro e w2 ⟨rfl, hb2⟩
      go_wp2
      go_ret
      exact saysE_f HP.out (keepT hbb hb2)
  · have z1 : (sc == 1) = false := by simpa using h1
    have HP : Hid (¬ grpK (sc, y, h)) := fun a => h1 a.1
    clear h1
    go_enter Try.func39, Try.ntmps39
    go_wp2
    go_ret
    exact saysE_f HP.out hbb

set_option maxRecDepth 10000 in
set_option maxHeartbeats 2000000 in
theorem everyGroup_any (a : Option Addr) (n c : Nat) (ps : List (Int × Int × Int)) (w : World) (h : RowPu w a n ps) (hn : n ≤ 9223372036854775807) :
    Calls Try.prog 38 #[.slice a n c, .func (Fn.func 39) #[] #[]] w (SaysE (AllG ps n) w) := by
  have H0 : Hid (RowPu w a n ps) := h
  clear h
  go_enter Try.func38, Try.ntmps38
  go_wp2
  go_loopw [9] (fun i wr => ∃ k : Nat, k ≤ n ∧ i = .int .i64 k ∧ Hid (AllG ps k) ∧ Below w.heap.size w wr) (fun i _ => n - (intOf i).toNat)
  case atStart => exact ⟨0, Nat.zero_le _, rfl, fun k hk => absurd hk (Nat.not_lt_zero _), Below.refl _ _⟩
  case round =>
    obtain ⟨k, hk, rfl, HE, hbr⟩ := hrel
    have hws := hbr.size
    by_cases hlt : k < n
    · obtain ⟨b, off, rfl, hb, x0, x1, x2⟩ := (H0.out.kept hbr).get k hlt
      have hyb := H0.out.rng k
      obtain ⟨p, hp⟩ : ∃ p, p = ps.getD k (0, 0, 0) := ⟨_, rfl⟩
      rw [← hp] at x0 x1 x2 hyb
      have HP : Hid (ps.getD k (0, 0, 0) = p) := hp.symm
      clear hp
      have hlti : (k : Int) < (n : Int) := by omega
      go_wp2_with fail
      refine (isGroupKey_any p _ hyb).mono ?_
      rintro e w2 ⟨r, rfl, HR, hb2⟩
      have hbz : Below wr.heap.size wr (wr.alloc (.cells #[.int .i64 p.1, .int .u64 p.2.1, .int .i64 p.2.2] 48)) := (Below.refl _ _).alloc (Nat.le_refl _) _
      have B2 : Below w.heap.size w w2 := hbr.trans ((keepT hbz hb2).mono hws)
      cases r with
      | true =>
        have HG : Hid (grpK p) := HR.out.1 rfl
        go_wp2
        go_roundw
        case rel => exact ⟨k + 1, by omega, by go_num, fun j hj => by
          by_cases e : j < k
          · exact HE.out j e
          · obtain rfl : j = k := by omega
            rw [HP.out]; exact HG.out, B2⟩
        case measure => simp [intOf]; omega
      | false =>
        have HG : Hid (¬ grpK p) := fun g => by have := HR.out.2 g; cases this
        go_wp2
        go_ret
        exact saysE_f (fun e => HG.out (by rw [← HP.out]; exact e k hlt)) B2
    · obtain rfl : k = n := by omega
      go_wp2
      go_ret
      exact saysE_t HE.out hbr

end Go.Proofs.Ytcgmcdelgfemkaa
