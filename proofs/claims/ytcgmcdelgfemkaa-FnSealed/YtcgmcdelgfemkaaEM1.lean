import Derived.Test.YtcgmcdelgfemkaaTT4
import Derived.Test.YtcgmcdelgfemkaaWXor
namespace Go.Proofs.Ytcgmcdelgfemkaa
open Go.RowKit

def alX : List Int := [97, 108, 103]
theorem alX_byte : ∀ k, 0 ≤ alX.getD k 0 ∧ alX.getD k 0 ≤ 255 := bytes_of_all (by decide)
def tgX : List Int := [116, 97, 103]
theorem tgX_byte : ∀ k, 0 ≤ tgX.getD k 0 ∧ tgX.getD k 0 ≤ 255 := bytes_of_all (by decide)
def smX : List Int := [115, 116, 114, 101, 97, 109]
theorem smX_byte : ∀ k, 0 ≤ smX.getD k 0 ∧ smX.getD k 0 ≤ 255 := bytes_of_all (by decide)
def psX : List Int := [112, 97, 115, 115]
theorem psX_byte : ∀ k, 0 ≤ psX.getD k 0 ∧ psX.getD k 0 ≤ 255 := bytes_of_all (by decide)
def wrX : List Int := [119, 114, 97, 112]
theorem wrX_byte : ∀ k, 0 ≤ wrX.getD k 0 ∧ wrX.getD k 0 ≤ 255 := bytes_of_all (by decide)
def ctX : List Int := [99, 111, 110, 116, 101, 110, 116]
theorem ctX_byte : ∀ k, 0 ≤ ctX.getD k 0 ∧ ctX.getD k 0 ≤ 255 := bytes_of_all (by decide)
/-- The digest of three parts. -/
def triN (a b c : List Int) : Int := hashL (partsL [a, b, c])
theorem triN_bd (a b c : List Int) : U64 (triN a b c) := hashL_bd _
theorem tri_total (a b c : List Int) (h : a.length + b.length + c.length ≤ 2097152) : total [a, b, c] ≤ 2097152 := by unfold total; simp; omega
theorem tri_rows (X : World) (T : Nat) (a1 : Option Addr) (n1 c1 : Nat) (p1 : List Int) (a2 : Option Addr) (n2 c2 : Nat) (p2 : List Int) (a3 : Option Addr) (n3 c3 : Nat) (p3 : List Int) (h1 : Row X a1 n1 p1) (e1 : a1 = none → c1 = 0) (h2 : Row X a2 n2 p2) (e2 : a2 = none → c2 = 0) (h3 : Row X a3 n3 p3) (e3 : a3 = none → c3 = 0) :
    Rows2 (X.alloc (.cells #[.slice a1 n1 c1, .slice a2 n2 c2, .slice a3 n3 c3] T)) (some ⟨X.heap.size, 0, none⟩) 3 [p1, p2, p3] := by
  refine rows2_lit X [(a1, n1, c1, p1), (a2, n2, c2, p2), (a3, n3, c3, p3)] T ?_
  intro p hp
  simp only [List.mem_cons, List.not_mem_nil, or_false] at hp
  rcases hp with rfl | rfl | rfl
  · exact ⟨h1, e1⟩
  · exact ⟨h2, e2⟩
  · exact ⟨h3, e3⟩
def dgN (alg : Int) (bs : List Int) : Int := triN alX (putI alg) bs
def dgR (alg : Int) (bs : List Int) : Int := if 1 ≤ alg ∧ alg ≤ 9 then dgN alg bs else 0
def tagN (k : Int) (bs : List Int) : Int := triN tgX (eightI k) bs

set_option maxRecDepth 10000 in
set_option maxHeartbeats 1000000 in
theorem sealTag_any (k : Int) (a : Option Addr) (n c : Nat) (bs : List Int) (w : World) (hk : U64 k) (h : Row w a n bs) (hn : n ≤ 1048576) (hc : a = none → c = 0) :
    Calls Try.prog 28 #[.int .u64 k, .slice a n c] w fun e w' => e = .returned (.int .u64 (tagN k bs)) ∧ Below w.heap.size w w' := by
  have H0 : Hid (Row w a n bs) := h
  have HK : Hid (U64 k) := hk
  have HT : Hid (total [tgX, eightI k, bs] ≤ 2097152) := by
    show _ ≤ _
    have h2 := h.len
    refine tri_total _ _ _ ?_
    rw [eightI_len]
    simp only [tgX, List.length_cons, List.length_nil]; omega
  clear h hk
  have hcv := Lib.run_convert_bytes_const (P := Try.prog) w 22 5 #[.int .u8 116, .int .u8 97, .int .u8 103] 3 3 Try.underlying22 Try.underlying5
  have hrw : Row (w.alloc (.cells #[.int .u8 116, .int .u8 97, .int .u8 103] 5 (3, 4))) (some ⟨w.heap.size, 0, none⟩) 3 tgX := row_word w tgX (3, 4) tgX_byte
  have hb0 : Below w.heap.size w (w.alloc (.cells #[.int .u8 116, .int .u8 97, .int .u8 103] 5 (3, 4))) := (Below.refl _ _).alloc (Nat.le_refl _) _
  go_enter Try.func28, Try.ntmps28
  go_wp2_with fail
  clear hcv
  obtain ⟨w0, hw0⟩ : ∃ w0, w0 = w.alloc (.cells #[.int .u8 116, .int .u8 97, .int .u8 103] 5 (3, 4)) := ⟨_, rfl⟩
  rw [← hw0] at hrw hb0 ⊢
  clear hw0
  refine (digestBytes_any k _ HK.out.1 HK.out.2).mono ?_
  rintro e w1 ⟨g1, rfl, hr1, _, hb1⟩
  have he1 : (some (⟨g1, 0, none⟩ : Addr)) = none → 8 = 0 := (fun h => by cases h)
  have B1 : Below w.heap.size w w1 := keepT hb0 hb1
  have HRS : Hid (Rows2 (w1.alloc (.cells #[.slice (some ⟨w.heap.size, 0, none⟩) 3 3, .slice (some ⟨g1, 0, none⟩) 8 8, .slice a n c] 22)) (some ⟨w1.heap.size, 0, none⟩) 3 [tgX, eightI k, bs]) :=
    tri_rows w1 22 _ _ _ _ _ _ _ _ _ _ _ _ (hrw.kept hb1) (fun h => by cases h) hr1 he1 (H0.out.kept B1) hc
  have B3 : Below w.heap.size w (w1.alloc (.cells #[.slice (some ⟨w.heap.size, 0, none⟩) 3 3, .slice (some ⟨g1, 0, none⟩) 8 8, .slice a n c] 22)) := B1.alloc B1.size _
  clear hr1 he1 hrw
  go_wp2_with fail
  refine (implHashParts_any _ 3 3 [tgX, eightI k, bs] _ HRS.out (by decide) HT.out).mono ?_
  rintro e w3 ⟨rfl, hb3⟩
  go_wp2
  go_ret
  exact ⟨rfl, keepT B3 hb3⟩

set_option maxRecDepth 10000 in
set_option maxHeartbeats 1000000 in
theorem l17Tag_any (k : Int) (a : Option Addr) (n c : Nat) (bs : List Int) (w : World) (hk : U64 k) (h : Row w a n bs) (hn : n ≤ 1048576) (hc : a = none → c = 0) :
    Calls Try.prog 32 #[.int .u64 k, .slice a n c] w fun e w' => e = .returned (.int .u64 (tagN k bs)) ∧ Below w.heap.size w w' := by
  have H0 : Hid (Row w a n bs) := h
  have HK : Hid (U64 k) := hk
  have HT : Hid (total [tgX, eightI k, bs] ≤ 2097152) := by
    show _ ≤ _
    have h2 := h.len
    refine tri_total _ _ _ ?_
    rw [eightI_len]
    simp only [tgX, List.length_cons, List.length_nil]; omega
  clear h hk
  have hcv := Lib.run_convert_bytes_const (P := Try.prog) w 22 5 #[.int .u8 116, .int .u8 97, .int .u8 103] 3 3 Try.underlying22 Try.underlying5
  have hrw : Row (w.alloc (.cells #[.int .u8 116, .int .u8 97, .int .u8 103] 5 (3, 4))) (some ⟨w.heap.size, 0, none⟩) 3 tgX := row_word w tgX (3, 4) tgX_byte
  have hb0 : Below w.heap.size w (w.alloc (.cells #[.int .u8 116, .int .u8 97, .int .u8 103] 5 (3, 4))) := (Below.refl _ _).alloc (Nat.le_refl _) _
  go_enter Try.func32, Try.ntmps32
  go_wp2_with fail
  clear hcv
  obtain ⟨w0, hw0⟩ : ∃ w0, w0 = w.alloc (.cells #[.int .u8 116, .int .u8 97, .int .u8 103] 5 (3, 4)) := ⟨_, rfl⟩
  rw [← hw0] at hrw hb0 ⊢
  clear hw0
  refine (l1Eight_any k _ HK.out.1 HK.out.2).mono ?_
  rintro e w1 ⟨a1, c1, rfl, ho1, hb1⟩
  have hr1 := ho1.toRow
  have he1 := ho1.nil
  have B1 : Below w.heap.size w w1 := keepT hb0 hb1
  have HRS : Hid (Rows2 (w1.alloc (.cells #[.slice (some ⟨w.heap.size, 0, none⟩) 3 3, .slice a1 8 c1, .slice a n c] 22)) (some ⟨w1.heap.size, 0, none⟩) 3 [tgX, eightI k, bs]) :=
    tri_rows w1 22 _ _ _ _ _ _ _ _ _ _ _ _ (hrw.kept hb1) (fun h => by cases h) hr1 he1 (H0.out.kept B1) hc
  have B3 : Below w.heap.size w (w1.alloc (.cells #[.slice (some ⟨w.heap.size, 0, none⟩) 3 3, .slice a1 8 c1, .slice a n c] 22)) := B1.alloc B1.size _
  clear hr1 he1 hrw
  go_wp2_with fail
  refine (specHashAll_any _ 3 3 [tgX, eightI k, bs] _ HRS.out (by decide) HT.out).mono ?_
  rintro e w3 ⟨rfl, hb3⟩
  go_wp2
  go_ret
  exact ⟨rfl, keepT B3 hb3⟩

end Go.Proofs.Ytcgmcdelgfemkaa
