import Derived.Test.YtbfjkmlmnhphoaaDoorGAP4MJ2
import Derived.Great.BuildSlice
set_option linter.unusedVariables false
namespace Go.Proofs.YtbfjkmlmnhphoaaDoor
open Go.RowKit Go.Sort

/-- What is known of a region (RJ). -/
def md8 (a1 : Option Addr) (n1 c1 : Nat) (a2 : Option Addr) (n2 c2 : Nat) (a3 : Option Addr) (n3 c3 : Nat) (x : CP) (b1 : Option Addr) (m1 d1 : Nat) (b2 : Option Addr) (m2 d2 : Nat) (b3 : Option Addr) (m3 d3 : Nat) (y : CP) (z : CP) (m n : Nat) (cd : Int) (G B : Nat) : RSpec where
  m := 11
  n := 13
  slots := [28, 29, 30, 31, 32, 27, 33, 34, 6, 6, 7, 100011, 100012]
  kills := [[], [4], [], [4], [], [], [], [], [9], [], [], [], []]
  pres := [[], [], [], [], [], [], [], [], [], [8, 4], [], [], []]
  fact := fun k v w => match k with
    | 0 => v = .agg #[.slice a1 n1 c1, .int .i64 x.num, .int .i64 x.base, .int .i64 x.tm, .int .i64 x.next, .int .i64 x.scope, .bool x.ind, .slice a2 n2 c2, .slice a3 n3 c3]
    | 1 => ∃ (u1 : Option Addr) (u2 : Option Addr) (u3 : Option Addr), v = .agg #[.slice u1 n1 n1, .int .i64 x.num, .int .i64 x.base, .int .i64 x.tm, .int .i64 x.next, .int .i64 x.scope, .bool x.ind, .slice u2 n2 n2, .slice u3 n3 n3] ∧ CrG w u1 n1 u2 n2 u3 n3 x
    | 2 => v = .agg #[.slice b1 m1 d1, .int .i64 y.num, .int .i64 y.base, .int .i64 y.tm, .int .i64 y.next, .int .i64 y.scope, .bool y.ind, .slice b2 m2 d2, .slice b3 m3 d3]
    | 3 => ∃ (v1 : Option Addr) (v2 : Option Addr) (v3 : Option Addr), v = .agg #[.slice v1 m1 m1, .int .i64 y.num, .int .i64 y.base, .int .i64 y.tm, .int .i64 y.next, .int .i64 y.scope, .bool y.ind, .slice v2 m2 m2, .slice v3 m3 m3] ∧ CrG w v1 m1 v2 m2 v3 m3 y
    | 4 => ∃ (p1 : Option Addr) (f1 : Nat) (p2 : Option Addr) (f2 : Nat) (p3 : Option Addr) (f3 : Nat), v = .tuple #[.agg #[.slice p1 m f1, .int .i64 z.num, .int .i64 z.base, .int .i64 z.tm, .int .i64 z.next, .int .i64 z.scope, .bool z.ind, .slice p2 n f2, .slice p3 0 f3], .int .i64 cd] ∧ AnS 0 w p1 m f1 p2 n f2 z
    | 5 => ∃ (p1 : Option Addr) (f1 : Nat) (p2 : Option Addr) (f2 : Nat) (p3 : Option Addr) (f3 : Nat), v = .tuple #[.agg #[.slice p1 m f1, .int .i64 z.num, .int .i64 z.base, .int .i64 z.tm, .int .i64 z.next, .int .i64 z.scope, .bool z.ind, .slice p2 n f2, .slice p3 0 f3], .int .i64 cd] ∧ AnS 0 w p1 m f1 p2 n f2 z
    | 6 => ∃ (p1 : Option Addr) (f1 : Nat) (p2 : Option Addr) (f2 : Nat) (p3 : Option Addr) (f3 : Nat), v = .agg #[.slice p1 m f1, .int .i64 z.num, .int .i64 z.base, .int .i64 z.tm, .int .i64 z.next, .int .i64 z.scope, .bool z.ind, .slice p2 n f2, .slice p3 0 f3] ∧ AnS 0 w p1 m f1 p2 n f2 z
    | 7 => v = .int .i64 cd
    | 8 => ∃ (gb8 : Nat), v = .pointer (some ⟨gb8, 0, none⟩) ∧ w.heap[gb8]? = some (.cells #[.slice none 0 0, .int .i64 0, .int .i64 0, .int .i64 0, .int .i64 0, .int .i64 0, .bool false, .slice none 0 0, .slice none 0 0] 36 (0, 0)) ∧ B ≤ gb8
    | 9 => ∃ (gs9 : Nat) (p1 : Option Addr) (f1 : Nat) (p2 : Option Addr) (f2 : Nat) (p3 : Option Addr) (f3 : Nat), v = .pointer (some ⟨gs9, 0, none⟩) ∧ w.heap[gs9]? = some (.cells #[.slice p1 m f1, .int .i64 z.num, .int .i64 z.base, .int .i64 z.tm, .int .i64 z.next, .int .i64 z.scope, .bool z.ind, .slice p2 n f2, .slice p3 0 f3] 36 (0, 0)) ∧ B ≤ gs9 ∧ AnS 0 w p1 m f1 p2 n f2 z
    | 10 => v = .int .i64 cd
    | 11 => w.heap[G]? = some (.cells #[.slice a1 n1 c1, .int .i64 x.num, .int .i64 x.base, .int .i64 x.tm, .int .i64 x.next, .int .i64 x.scope, .bool x.ind, .slice a2 n2 c2, .slice a3 n3 c3] 28 (0, 0))
    | _ => w.heap[(G + 1)]? = some (.cells #[.slice b1 m1 d1, .int .i64 y.num, .int .i64 y.base, .int .i64 y.tm, .int .i64 y.next, .int .i64 y.scope, .bool y.ind, .slice b2 m2 d2, .slice b3 m3 d3] 28 (0, 0))
set_option linter.unusedVariables false in
theorem md8_stb (a1 : Option Addr) (n1 c1 : Nat) (a2 : Option Addr) (n2 c2 : Nat) (a3 : Option Addr) (n3 c3 : Nat) (x : CP) (b1 : Option Addr) (m1 d1 : Nat) (b2 : Option Addr) (m2 d2 : Nat) (b3 : Option Addr) (m3 d3 : Nat) (y : CP) (z : CP) (m n : Nat) (cd : Int) (G B : Nat) (k : Nat) (hk : k < 13) : StB ((md8 a1 n1 c1 a2 n2 c2 a3 n3 c3 x b1 m1 d1 b2 m2 d2 b3 m3 d3 y z m n cd G (B)).fact k) := by
  match k, hk with
  | 0, _ => exact fun _ _ _ h _ => h
  | 1, _ => exact fun _ _ _ ⟨u1, u2, u3, hv, q_0⟩ hb => ⟨u1, u2, u3, hv, q_0.kept hb⟩
  | 2, _ => exact fun _ _ _ h _ => h
  | 3, _ => exact fun _ _ _ ⟨v1, v2, v3, hv, q_0⟩ hb => ⟨v1, v2, v3, hv, q_0.kept hb⟩
  | 4, _ => exact fun _ _ _ ⟨p1, f1, p2, f2, p3, f3, hv, q_0⟩ hb => ⟨p1, f1, p2, f2, p3, f3, hv, q_0.kept hb⟩
  | 5, _ => exact fun _ _ _ ⟨p1, f1, p2, f2, p3, f3, hv, q_0⟩ hb => ⟨p1, f1, p2, f2, p3, f3, hv, q_0.kept hb⟩
  | 6, _ => exact fun _ _ _ ⟨p1, f1, p2, f2, p3, f3, hv, q_0⟩ hb => ⟨p1, f1, p2, f2, p3, f3, hv, q_0.kept hb⟩
  | 7, _ => exact fun _ _ _ h _ => h
  | 8, _ => exact fun _ _ _ ⟨gb8, hv, q_0, q_1⟩ hb => ⟨gb8, hv, below_kept q_0 hb, q_1⟩
  | 9, _ => exact fun _ _ _ ⟨gs9, p1, f1, p2, f2, p3, f3, hv, q_0, q_1, q_2⟩ hb => ⟨gs9, p1, f1, p2, f2, p3, f3, hv, below_kept q_0 hb, q_1, q_2.kept hb⟩
  | 10, _ => exact fun _ _ _ h _ => h
  | 11, _ => exact fun _ _ _ q_0 hb => below_kept q_0 hb
  | 12, _ => exact fun _ _ _ q_0 hb => below_kept q_0 hb
  | k + 13, hk => omega
set_option linter.unusedVariables false in
theorem md8_st9 (a1 : Option Addr) (n1 c1 : Nat) (a2 : Option Addr) (n2 c2 : Nat) (a3 : Option Addr) (n3 c3 : Nat) (x : CP) (b1 : Option Addr) (m1 d1 : Nat) (b2 : Option Addr) (m2 d2 : Nat) (b3 : Option Addr) (m3 d3 : Nat) (y : CP) (z : CP) (m n : Nat) (cd : Int) (G B : Nat) {W W2 : World} {g : Nat} {cs : Array Value} {fr : Nat × Nat} (hg : W.heap[g]? = some (.cells cs 36 fr)) (ht : Touch (g) (g + 1) W W2) (hge : B ≤ g) {lq : Nat → Bool} (hcl : ∀ k, k < 13 → lq k = true → ∀ j ∈ (md8 a1 n1 c1 a2 n2 c2 a3 n3 c3 x b1 m1 d1 b2 m2 d2 b3 m3 d3 y z m n cd G (B)).pre k, lq j = true) (hun : lq 9 = false) (hpr : ∀ j ∈ (md8 a1 n1 c1 a2 n2 c2 a3 n3 c3 x b1 m1 d1 b2 m2 d2 b3 m3 d3 y z m n cd G (B)).pre 9, lq j = true) (k : Nat) (hk : k < 13) (hne : k ≠ 9) (hl : lq k = true) (hks : ∀ j ∈ (md8 a1 n1 c1 a2 n2 c2 a3 n3 c3 x b1 m1 d1 b2 m2 d2 b3 m3 d3 y z m n cd G (B)).kill k, lq j = false) (hkill : 9 ∉ (md8 a1 n1 c1 a2 n2 c2 a3 n3 c3 x b1 m1 d1 b2 m2 d2 b3 m3 d3 y z m n cd G (B)).kill k) (v : Value) (hfact : (md8 a1 n1 c1 a2 n2 c2 a3 n3 c3 x b1 m1 d1 b2 m2 d2 b3 m3 d3 y z m n cd G (B)).fact k v W) : (md8 a1 n1 c1 a2 n2 c2 a3 n3 c3 x b1 m1 d1 b2 m2 d2 b3 m3 d3 y z m n cd G (B)).fact k v W2 := by
  match k, hk, hne, hl, hks, hkill, hfact with
  | 0, _, _, _, _, _, hq => exact hq
  | 1, _, _, _, hks, _, _ => exact absurd (hpr 4 (List.Mem.tail _ (List.Mem.head _))) (by rw [hks 4 (List.Mem.head _)]; decide)
  | 2, _, _, _, _, _, hq => exact hq
  | 3, _, _, _, hks, _, _ => exact absurd (hpr 4 (List.Mem.tail _ (List.Mem.head _))) (by rw [hks 4 (List.Mem.head _)]; decide)
  | 4, _, _, _, _, _, ⟨p1, f1, p2, f2, p3, f3, hv, q_0⟩ => exact ⟨p1, f1, p2, f2, p3, f3, hv, q_0.touched hg (by decide) (by decide) ht⟩
  | 5, _, _, _, _, _, ⟨p1, f1, p2, f2, p3, f3, hv, q_0⟩ => exact ⟨p1, f1, p2, f2, p3, f3, hv, q_0.touched hg (by decide) (by decide) ht⟩
  | 6, _, _, _, _, _, ⟨p1, f1, p2, f2, p3, f3, hv, q_0⟩ => exact ⟨p1, f1, p2, f2, p3, f3, hv, q_0.touched hg (by decide) (by decide) ht⟩
  | 7, _, _, _, _, _, hq => exact hq
  | 8, _, _, _, _, hkill, _ => exact absurd (List.Mem.head _) hkill
  | 9, _, hne, _, _, _, _ => exact absurd rfl hne
  | 10, _, _, _, _, _, hq => exact hq
  | 11, _, _, _, _, _, q_0 => exact box_box q_0 hg (by decide) ht
  | 12, _, _, _, _, _, q_0 => exact box_box q_0 hg (by decide) ht
  | k + 13, hk, _, _, _, _, _ => omega

/-- What is known of a region (RJ). -/
def md14 (a1 : Option Addr) (n1 c1 : Nat) (a2 : Option Addr) (n2 c2 : Nat) (a3 : Option Addr) (n3 c3 : Nat) (x : CP) (b1 : Option Addr) (m1 d1 : Nat) (b2 : Option Addr) (m2 d2 : Nat) (b3 : Option Addr) (m3 d3 : Nat) (y : CP) (t1 t2 t3 : Option Addr) (gx G B : Nat) : RSpec where
  m := 5
  n := 7
  slots := [54, 55, 56, 57, 58, 100005, 100006]
  kills := [[], [], [], [], [], [], []]
  pres := [[], [], [], [], [], [], []]
  fact := fun k v w => match k with
    | 0 => v = .agg #[.slice t1 n1 n1, .int .i64 x.num, .int .i64 x.base, .int .i64 x.tm, .int .i64 x.next, .int .i64 x.scope, .bool x.ind, .slice t2 n2 n2, .slice t3 n3 n3]
    | 1 => v = .agg #[.slice a1 n1 c1, .int .i64 x.num, .int .i64 x.base, .int .i64 x.tm, .int .i64 x.next, .int .i64 x.scope, .bool x.ind, .slice a2 n2 c2, .slice a3 n3 c3]
    | 2 => ∃ (s1 : Option Addr) (s2 : Option Addr) (s3 : Option Addr), v = .agg #[.slice s1 n1 n1, .int .i64 x.num, .int .i64 x.base, .int .i64 x.tm, .int .i64 x.next, .int .i64 x.scope, .bool x.ind, .slice s2 n2 n2, .slice s3 n3 n3] ∧ CrG w s1 n1 s2 n2 s3 n3 x
    | 3 => v = .bool true
    | 4 => v = .bool false
    | 5 => w.heap[gx]? = some (.cells #[.slice t1 n1 n1, .int .i64 x.num, .int .i64 x.base, .int .i64 x.tm, .int .i64 x.next, .int .i64 x.scope, .bool x.ind, .slice t2 n2 n2, .slice t3 n3 n3] 36 (0, 0))
    | _ => w.heap[G]? = some (.cells #[.slice a1 n1 c1, .int .i64 x.num, .int .i64 x.base, .int .i64 x.tm, .int .i64 x.next, .int .i64 x.scope, .bool x.ind, .slice a2 n2 c2, .slice a3 n3 c3] 28 (0, 0))
set_option linter.unusedVariables false in
theorem md14_stb (a1 : Option Addr) (n1 c1 : Nat) (a2 : Option Addr) (n2 c2 : Nat) (a3 : Option Addr) (n3 c3 : Nat) (x : CP) (b1 : Option Addr) (m1 d1 : Nat) (b2 : Option Addr) (m2 d2 : Nat) (b3 : Option Addr) (m3 d3 : Nat) (y : CP) (t1 t2 t3 : Option Addr) (gx G B : Nat) (k : Nat) (hk : k < 7) : StB ((md14 a1 n1 c1 a2 n2 c2 a3 n3 c3 x b1 m1 d1 b2 m2 d2 b3 m3 d3 y t1 t2 t3 gx G (B)).fact k) := by
  match k, hk with
  | 0, _ => exact fun _ _ _ h _ => h
  | 1, _ => exact fun _ _ _ h _ => h
  | 2, _ => exact fun _ _ _ ⟨s1, s2, s3, hv, q_0⟩ hb => ⟨s1, s2, s3, hv, q_0.kept hb⟩
  | 3, _ => exact fun _ _ _ h _ => h
  | 4, _ => exact fun _ _ _ h _ => h
  | 5, _ => exact fun _ _ _ q_0 hb => below_kept q_0 hb
  | 6, _ => exact fun _ _ _ q_0 hb => below_kept q_0 hb
  | k + 7, hk => omega

/-- What is known of a region (RJ). -/
def md16 (a1 : Option Addr) (n1 c1 : Nat) (a2 : Option Addr) (n2 c2 : Nat) (a3 : Option Addr) (n3 c3 : Nat) (x : CP) (b1 : Option Addr) (m1 d1 : Nat) (b2 : Option Addr) (m2 d2 : Nat) (b3 : Option Addr) (m3 d3 : Nat) (y : CP) (t1 t2 t3 : Option Addr) (gx G B : Nat) : RSpec where
  m := 5
  n := 7
  slots := [59, 60, 61, 62, 63, 100005, 100006]
  kills := [[], [], [], [], [], [], []]
  pres := [[], [], [], [], [], [], []]
  fact := fun k v w => match k with
    | 0 => v = .agg #[.slice t1 m1 m1, .int .i64 y.num, .int .i64 y.base, .int .i64 y.tm, .int .i64 y.next, .int .i64 y.scope, .bool y.ind, .slice t2 m2 m2, .slice t3 m3 m3]
    | 1 => v = .agg #[.slice b1 m1 d1, .int .i64 y.num, .int .i64 y.base, .int .i64 y.tm, .int .i64 y.next, .int .i64 y.scope, .bool y.ind, .slice b2 m2 d2, .slice b3 m3 d3]
    | 2 => ∃ (s1 : Option Addr) (s2 : Option Addr) (s3 : Option Addr), v = .agg #[.slice s1 m1 m1, .int .i64 y.num, .int .i64 y.base, .int .i64 y.tm, .int .i64 y.next, .int .i64 y.scope, .bool y.ind, .slice s2 m2 m2, .slice s3 m3 m3] ∧ CrG w s1 m1 s2 m2 s3 m3 y
    | 3 => v = .bool true
    | 4 => v = .bool false
    | 5 => w.heap[gx]? = some (.cells #[.slice t1 m1 m1, .int .i64 y.num, .int .i64 y.base, .int .i64 y.tm, .int .i64 y.next, .int .i64 y.scope, .bool y.ind, .slice t2 m2 m2, .slice t3 m3 m3] 36 (0, 0))
    | _ => w.heap[(G + 1)]? = some (.cells #[.slice b1 m1 d1, .int .i64 y.num, .int .i64 y.base, .int .i64 y.tm, .int .i64 y.next, .int .i64 y.scope, .bool y.ind, .slice b2 m2 d2, .slice b3 m3 d3] 28 (0, 0))
set_option linter.unusedVariables false in
theorem md16_stb (a1 : Option Addr) (n1 c1 : Nat) (a2 : Option Addr) (n2 c2 : Nat) (a3 : Option Addr) (n3 c3 : Nat) (x : CP) (b1 : Option Addr) (m1 d1 : Nat) (b2 : Option Addr) (m2 d2 : Nat) (b3 : Option Addr) (m3 d3 : Nat) (y : CP) (t1 t2 t3 : Option Addr) (gx G B : Nat) (k : Nat) (hk : k < 7) : StB ((md16 a1 n1 c1 a2 n2 c2 a3 n3 c3 x b1 m1 d1 b2 m2 d2 b3 m3 d3 y t1 t2 t3 gx G (B)).fact k) := by
  match k, hk with
  | 0, _ => exact fun _ _ _ h _ => h
  | 1, _ => exact fun _ _ _ h _ => h
  | 2, _ => exact fun _ _ _ ⟨s1, s2, s3, hv, q_0⟩ hb => ⟨s1, s2, s3, hv, q_0.kept hb⟩
  | 3, _ => exact fun _ _ _ h _ => h
  | 4, _ => exact fun _ _ _ h _ => h
  | 5, _ => exact fun _ _ _ q_0 hb => below_kept q_0 hb
  | 6, _ => exact fun _ _ _ q_0 hb => below_kept q_0 hb
  | k + 7, hk => omega

/-- What is known of a region (RJ). -/
def md31 (a1 : Option Addr) (n1 c1 : Nat) (a2 : Option Addr) (n2 c2 : Nat) (a3 : Option Addr) (n3 c3 : Nat) (x : CP) (b1 : Option Addr) (m1 d1 : Nat) (b2 : Option Addr) (m2 d2 : Nat) (b3 : Option Addr) (m3 d3 : Nat) (y : CP) (z : CP) (m n : Nat) (cd : Int) (G B : Nat) : RSpec where
  m := 11
  n := 13
  slots := [95, 96, 97, 98, 99, 94, 100, 101, 15, 15, 16, 100011, 100012]
  kills := [[], [4], [], [4], [], [], [], [], [9], [], [], [], []]
  pres := [[], [], [], [], [], [], [], [], [], [8, 4], [], [], []]
  fact := fun k v w => match k with
    | 0 => v = .agg #[.slice a1 n1 c1, .int .i64 x.num, .int .i64 x.base, .int .i64 x.tm, .int .i64 x.next, .int .i64 x.scope, .bool x.ind, .slice a2 n2 c2, .slice a3 n3 c3]
    | 1 => ∃ (u1 : Option Addr) (u2 : Option Addr) (u3 : Option Addr), v = .agg #[.slice u1 n1 n1, .int .i64 x.num, .int .i64 x.base, .int .i64 x.tm, .int .i64 x.next, .int .i64 x.scope, .bool x.ind, .slice u2 n2 n2, .slice u3 n3 n3] ∧ CrG w u1 n1 u2 n2 u3 n3 x
    | 2 => v = .agg #[.slice b1 m1 d1, .int .i64 y.num, .int .i64 y.base, .int .i64 y.tm, .int .i64 y.next, .int .i64 y.scope, .bool y.ind, .slice b2 m2 d2, .slice b3 m3 d3]
    | 3 => ∃ (v1 : Option Addr) (v2 : Option Addr) (v3 : Option Addr), v = .agg #[.slice v1 m1 m1, .int .i64 y.num, .int .i64 y.base, .int .i64 y.tm, .int .i64 y.next, .int .i64 y.scope, .bool y.ind, .slice v2 m2 m2, .slice v3 m3 m3] ∧ CrG w v1 m1 v2 m2 v3 m3 y
    | 4 => ∃ (p1 : Option Addr) (f1 : Nat) (p2 : Option Addr) (f2 : Nat) (p3 : Option Addr) (f3 : Nat), v = .tuple #[.agg #[.slice p1 m f1, .int .i64 z.num, .int .i64 z.base, .int .i64 z.tm, .int .i64 z.next, .int .i64 z.scope, .bool z.ind, .slice p2 n f2, .slice p3 0 f3], .int .i64 cd] ∧ AnS 0 w p1 m f1 p2 n f2 z
    | 5 => ∃ (p1 : Option Addr) (f1 : Nat) (p2 : Option Addr) (f2 : Nat) (p3 : Option Addr) (f3 : Nat), v = .tuple #[.agg #[.slice p1 m f1, .int .i64 z.num, .int .i64 z.base, .int .i64 z.tm, .int .i64 z.next, .int .i64 z.scope, .bool z.ind, .slice p2 n f2, .slice p3 0 f3], .int .i64 cd] ∧ AnS 0 w p1 m f1 p2 n f2 z
    | 6 => ∃ (p1 : Option Addr) (f1 : Nat) (p2 : Option Addr) (f2 : Nat) (p3 : Option Addr) (f3 : Nat), v = .agg #[.slice p1 m f1, .int .i64 z.num, .int .i64 z.base, .int .i64 z.tm, .int .i64 z.next, .int .i64 z.scope, .bool z.ind, .slice p2 n f2, .slice p3 0 f3] ∧ AnS 0 w p1 m f1 p2 n f2 z
    | 7 => v = .int .i64 cd
    | 8 => ∃ (gb8 : Nat), v = .pointer (some ⟨gb8, 0, none⟩) ∧ w.heap[gb8]? = some (.cells #[.slice none 0 0, .int .i64 0, .int .i64 0, .int .i64 0, .int .i64 0, .int .i64 0, .bool false, .slice none 0 0, .slice none 0 0] 36 (0, 0)) ∧ B ≤ gb8
    | 9 => ∃ (gs9 : Nat) (p1 : Option Addr) (f1 : Nat) (p2 : Option Addr) (f2 : Nat) (p3 : Option Addr) (f3 : Nat), v = .pointer (some ⟨gs9, 0, none⟩) ∧ w.heap[gs9]? = some (.cells #[.slice p1 m f1, .int .i64 z.num, .int .i64 z.base, .int .i64 z.tm, .int .i64 z.next, .int .i64 z.scope, .bool z.ind, .slice p2 n f2, .slice p3 0 f3] 36 (0, 0)) ∧ B ≤ gs9 ∧ AnS 0 w p1 m f1 p2 n f2 z
    | 10 => v = .int .i64 cd
    | 11 => w.heap[G]? = some (.cells #[.slice a1 n1 c1, .int .i64 x.num, .int .i64 x.base, .int .i64 x.tm, .int .i64 x.next, .int .i64 x.scope, .bool x.ind, .slice a2 n2 c2, .slice a3 n3 c3] 28 (0, 0))
    | _ => w.heap[(G + 1)]? = some (.cells #[.slice b1 m1 d1, .int .i64 y.num, .int .i64 y.base, .int .i64 y.tm, .int .i64 y.next, .int .i64 y.scope, .bool y.ind, .slice b2 m2 d2, .slice b3 m3 d3] 28 (0, 0))
set_option linter.unusedVariables false in
theorem md31_stb (a1 : Option Addr) (n1 c1 : Nat) (a2 : Option Addr) (n2 c2 : Nat) (a3 : Option Addr) (n3 c3 : Nat) (x : CP) (b1 : Option Addr) (m1 d1 : Nat) (b2 : Option Addr) (m2 d2 : Nat) (b3 : Option Addr) (m3 d3 : Nat) (y : CP) (z : CP) (m n : Nat) (cd : Int) (G B : Nat) (k : Nat) (hk : k < 13) : StB ((md31 a1 n1 c1 a2 n2 c2 a3 n3 c3 x b1 m1 d1 b2 m2 d2 b3 m3 d3 y z m n cd G (B)).fact k) := by
  match k, hk with
  | 0, _ => exact fun _ _ _ h _ => h
  | 1, _ => exact fun _ _ _ ⟨u1, u2, u3, hv, q_0⟩ hb => ⟨u1, u2, u3, hv, q_0.kept hb⟩
  | 2, _ => exact fun _ _ _ h _ => h
  | 3, _ => exact fun _ _ _ ⟨v1, v2, v3, hv, q_0⟩ hb => ⟨v1, v2, v3, hv, q_0.kept hb⟩
  | 4, _ => exact fun _ _ _ ⟨p1, f1, p2, f2, p3, f3, hv, q_0⟩ hb => ⟨p1, f1, p2, f2, p3, f3, hv, q_0.kept hb⟩
  | 5, _ => exact fun _ _ _ ⟨p1, f1, p2, f2, p3, f3, hv, q_0⟩ hb => ⟨p1, f1, p2, f2, p3, f3, hv, q_0.kept hb⟩
  | 6, _ => exact fun _ _ _ ⟨p1, f1, p2, f2, p3, f3, hv, q_0⟩ hb => ⟨p1, f1, p2, f2, p3, f3, hv, q_0.kept hb⟩
  | 7, _ => exact fun _ _ _ h _ => h
  | 8, _ => exact fun _ _ _ ⟨gb8, hv, q_0, q_1⟩ hb => ⟨gb8, hv, below_kept q_0 hb, q_1⟩
  | 9, _ => exact fun _ _ _ ⟨gs9, p1, f1, p2, f2, p3, f3, hv, q_0, q_1, q_2⟩ hb => ⟨gs9, p1, f1, p2, f2, p3, f3, hv, below_kept q_0 hb, q_1, q_2.kept hb⟩
  | 10, _ => exact fun _ _ _ h _ => h
  | 11, _ => exact fun _ _ _ q_0 hb => below_kept q_0 hb
  | 12, _ => exact fun _ _ _ q_0 hb => below_kept q_0 hb
  | k + 13, hk => omega
set_option linter.unusedVariables false in
theorem md31_st9 (a1 : Option Addr) (n1 c1 : Nat) (a2 : Option Addr) (n2 c2 : Nat) (a3 : Option Addr) (n3 c3 : Nat) (x : CP) (b1 : Option Addr) (m1 d1 : Nat) (b2 : Option Addr) (m2 d2 : Nat) (b3 : Option Addr) (m3 d3 : Nat) (y : CP) (z : CP) (m n : Nat) (cd : Int) (G B : Nat) {W W2 : World} {g : Nat} {cs : Array Value} {fr : Nat × Nat} (hg : W.heap[g]? = some (.cells cs 36 fr)) (ht : Touch (g) (g + 1) W W2) (hge : B ≤ g) {lq : Nat → Bool} (hcl : ∀ k, k < 13 → lq k = true → ∀ j ∈ (md31 a1 n1 c1 a2 n2 c2 a3 n3 c3 x b1 m1 d1 b2 m2 d2 b3 m3 d3 y z m n cd G (B)).pre k, lq j = true) (hun : lq 9 = false) (hpr : ∀ j ∈ (md31 a1 n1 c1 a2 n2 c2 a3 n3 c3 x b1 m1 d1 b2 m2 d2 b3 m3 d3 y z m n cd G (B)).pre 9, lq j = true) (k : Nat) (hk : k < 13) (hne : k ≠ 9) (hl : lq k = true) (hks : ∀ j ∈ (md31 a1 n1 c1 a2 n2 c2 a3 n3 c3 x b1 m1 d1 b2 m2 d2 b3 m3 d3 y z m n cd G (B)).kill k, lq j = false) (hkill : 9 ∉ (md31 a1 n1 c1 a2 n2 c2 a3 n3 c3 x b1 m1 d1 b2 m2 d2 b3 m3 d3 y z m n cd G (B)).kill k) (v : Value) (hfact : (md31 a1 n1 c1 a2 n2 c2 a3 n3 c3 x b1 m1 d1 b2 m2 d2 b3 m3 d3 y z m n cd G (B)).fact k v W) : (md31 a1 n1 c1 a2 n2 c2 a3 n3 c3 x b1 m1 d1 b2 m2 d2 b3 m3 d3 y z m n cd G (B)).fact k v W2 := by
  match k, hk, hne, hl, hks, hkill, hfact with
  | 0, _, _, _, _, _, hq => exact hq
  | 1, _, _, _, hks, _, _ => exact absurd (hpr 4 (List.Mem.tail _ (List.Mem.head _))) (by rw [hks 4 (List.Mem.head _)]; decide)
  | 2, _, _, _, _, _, hq => exact hq
  | 3, _, _, _, hks, _, _ => exact absurd (hpr 4 (List.Mem.tail _ (List.Mem.head _))) (by rw [hks 4 (List.Mem.head _)]; decide)
  | 4, _, _, _, _, _, ⟨p1, f1, p2, f2, p3, f3, hv, q_0⟩ => exact ⟨p1, f1, p2, f2, p3, f3, hv, q_0.touched hg (by decide) (by decide) ht⟩
  | 5, _, _, _, _, _, ⟨p1, f1, p2, f2, p3, f3, hv, q_0⟩ => exact ⟨p1, f1, p2, f2, p3, f3, hv, q_0.touched hg (by decide) (by decide) ht⟩
  | 6, _, _, _, _, _, ⟨p1, f1, p2, f2, p3, f3, hv, q_0⟩ => exact ⟨p1, f1, p2, f2, p3, f3, hv, q_0.touched hg (by decide) (by decide) ht⟩
  | 7, _, _, _, _, _, hq => exact hq
  | 8, _, _, _, _, hkill, _ => exact absurd (List.Mem.head _) hkill
  | 9, _, hne, _, _, _, _ => exact absurd rfl hne
  | 10, _, _, _, _, _, hq => exact hq
  | 11, _, _, _, _, _, q_0 => exact box_box q_0 hg (by decide) ht
  | 12, _, _, _, _, _, q_0 => exact box_box q_0 hg (by decide) ht
  | k + 13, hk, _, _, _, _, _ => omega

set_option maxRecDepth 10000 in
set_option maxHeartbeats 8000000 in
theorem lawApplyDelta_walk (a1 : Option Addr) (n1 c1 : Nat) (a2 : Option Addr) (n2 c2 : Nat) (a3 : Option Addr) (n3 c3 : Nat) (x : CP) (b1 : Option Addr) (m1 d1 : Nat) (b2 : Option Addr) (m2 d2 : Nat) (b3 : Option Addr) (m3 d3 : Nat) (y : CP) (w : World) (htab : Lib.TabIs Tryd.prog w "internal/strconv.uint64pow10" .u64 Lib.pow10Tab) (hsc : -9223372036854775808 ≤ x.scope ∧ x.scope ≤ 9223372036854775807) (hsc' : -9223372036854775808 ≤ y.scope ∧ y.scope ≤ 9223372036854775807) (h : Crs w a1 n1 a2 n2 a3 n3 x) (h' : Crs w b1 m1 b2 m2 b3 m3 y) :
    Calls Tryd.prog 5 #[crv a1 n1 c1 a2 n2 c2 a3 n3 c3 x, crv b1 m1 d1 b2 m2 d2 b3 m3 d3 y] w fun e w' => e = .returned (.bool true) ∧ Below w.heap.size w w' := by
  have HA : Hid (Crs w a1 n1 a2 n2 a3 n3 x) := h
  have HB : Hid (Crs w b1 m1 b2 m2 b3 m3 y) := h'
  have HSC : Hid ((-9223372036854775808 ≤ x.scope ∧ x.scope ≤ 9223372036854775807) ∧ (-9223372036854775808 ≤ y.scope ∧ y.scope ≤ 9223372036854775807)) := ⟨hsc, hsc'⟩
  have HTB : Hid (∀ W, Below w.heap.size w W → Lib.TabIs Tryd.prog W "internal/strconv.uint64pow10" .u64 Lib.pow10Tab) := fun W hW => Lib.tabBelow_of_tabIs htab W hW
  clear h h' hsc hsc' htab
  obtain ⟨w0, hw0⟩ : ∃ w0, w0 = (w.alloc (.cells #[.slice a1 n1 c1, .int .i64 x.num, .int .i64 x.base, .int .i64 x.tm, .int .i64 x.next, .int .i64 x.scope, .bool x.ind, .slice a2 n2 c2, .slice a3 n3 c3] 28)).alloc (.cells #[.slice b1 m1 d1, .int .i64 y.num, .int .i64 y.base, .int .i64 y.tm, .int .i64 y.next, .int .i64 y.scope, .bool y.ind, .slice b2 m2 d2, .slice b3 m3 d3] 28) := ⟨_, rfl⟩
  have hb0 : Below w.heap.size w w0 := by rw [hw0]; exact ((Below.refl _ _).alloc (Nat.le_refl _) _).alloc (by simp) _
  have hB0 : w0.heap[w.heap.size]? = some (.cells #[.slice a1 n1 c1, .int .i64 x.num, .int .i64 x.base, .int .i64 x.tm, .int .i64 x.next, .int .i64 x.scope, .bool x.ind, .slice a2 n2 c2, .slice a3 n3 c3] 28 (0, 0)) ∧ w0.heap[w.heap.size + 1]? = some (.cells #[.slice b1 m1 d1, .int .i64 y.num, .int .i64 y.base, .int .i64 y.tm, .int .i64 y.next, .int .i64 y.scope, .bool y.ind, .slice b2 m2 d2, .slice b3 m3 d3] 28 (0, 0)) := by rw [hw0]; exact two_blocks w _ _
  have F0 : Hid (FrL w [(w.heap.size, #[.slice a1 n1 c1, .int .i64 x.num, .int .i64 x.base, .int .i64 x.tm, .int .i64 x.next, .int .i64 x.scope, .bool x.ind, .slice a2 n2 c2, .slice a3 n3 c3], 28), (w.heap.size + 1, #[.slice b1 m1 d1, .int .i64 y.num, .int .i64 y.base, .int .i64 y.tm, .int .i64 y.next, .int .i64 y.scope, .bool y.ind, .slice b2 m2 d2, .slice b3 m3 d3], 28)] w0) := ⟨hb0, fun p hp => by
    simp only [List.mem_cons, List.not_mem_nil, or_false] at hp
    rcases hp with rfl | rfl
    · exact hB0.1
    · exact hB0.2⟩
  have HW : Hid (_ = _) := hw0
  clear hw0 hb0 hB0
  unfold crv
  go_enter Tryd.func5, Tryd.ntmps5
  go_upto_region 2 with fail
  rw [← HW.out]
  clear HW
  go_wp2_with (refine wpList_load_row rfl 28 _ rfl (w.heap.size) rfl 28 #[.slice a1 n1 c1, .int .i64 x.num, .int .i64 x.base, .int .i64 x.tm, .int .i64 x.next, .int .i64 x.scope, .bool x.ind, .slice a2 n2 c2, .slice a3 n3 c3] (0, 0) _ (F0.out.all (w.heap.size, #[.slice a1 n1 c1, .int .i64 x.num, .int .i64 x.base, .int .i64 x.tm, .int .i64 x.next, .int .i64 x.scope, .bool x.ind, .slice a2 n2 c2, .slice a3 n3 c3], 28) (by simp)) Tryd.underlying28 rfl (by kernel_rfl) ?_)
  refine (szCrl_raw a1 n1 c1 a2 n2 c2 a3 n3 c3 x 1048576 _ (HA.out.kept F0.out.below) (by decide) (by decide)).mono ?_
  rintro e w1 ⟨r, rfl, hr, hb⟩
  have F1 : Hid (_) := F0.out.on hb
  clear hb F0
  by_cases hneg : r < 0
  · clear hr
    go_wp2
    go_ret
    exact ⟨rfl, F1.out.below⟩
  have hr0 : 0 ≤ r ∧ r ≤ 1048576 := by omega
  have HZX : Hid (CpOk n1 n2 n3 x) := by rcases hr with h | h; exact absurd h hneg; exact h.2.2
  clear hr
  go_wp2_with (refine wpList_load_row rfl 28 _ rfl (w.heap.size + 1) rfl 28 #[.slice b1 m1 d1, .int .i64 y.num, .int .i64 y.base, .int .i64 y.tm, .int .i64 y.next, .int .i64 y.scope, .bool y.ind, .slice b2 m2 d2, .slice b3 m3 d3] (0, 0) _ (F1.out.all (w.heap.size + 1, #[.slice b1 m1 d1, .int .i64 y.num, .int .i64 y.base, .int .i64 y.tm, .int .i64 y.next, .int .i64 y.scope, .bool y.ind, .slice b2 m2 d2, .slice b3 m3 d3], 28) (by simp)) Tryd.underlying28 rfl (by kernel_rfl) ?_)
  refine (szCrl_raw b1 m1 d1 b2 m2 d2 b3 m3 d3 y r _ (HB.out.kept F1.out.below) hr0.1 hr0.2).mono ?_
  rintro e w2 ⟨r2, rfl, hr2, hb⟩
  have F2 : Hid (_) := F1.out.on hb
  clear hb F1
  by_cases hneg2 : r2 < 0
  · clear hr2
    go_wp2
    go_ret
    exact ⟨rfl, F2.out.below⟩
  have HZY : Hid (CpOk m1 m2 m3 y) := by rcases hr2 with h | h; exact absurd h hneg2; exact h.2.2
  clear hr2
  obtain ⟨z, m, n, cd, hoz, hos, hoi⟩ := ap_out HZX.out HZY.out HA.out.en.len HB.out.en.len
  have HOZ : Hid (CpOk m n 0 z) := hoz
  have HTX : Hid (∀ (W : World), Below w.heap.size w W → Calls Tryd.prog 9 #[.agg #[.slice a1 n1 c1, .int .i64 x.num, .int .i64 x.base, .int .i64 x.tm, .int .i64 x.next, .int .i64 x.scope, .bool x.ind, .slice a2 n2 c2, .slice a3 n3 c3]] W fun e w' => ∃ u1 u2 u3, e = .returned (.agg #[.slice u1 n1 n1, .int .i64 x.num, .int .i64 x.base, .int .i64 x.tm, .int .i64 x.next, .int .i64 x.scope, .bool x.ind, .slice u2 n2 n2, .slice u3 n3 n3]) ∧ CrG w' u1 n1 u2 n2 u3 n3 x ∧ (∃ v1 sl pv vs, OwnC W.heap.size w' u1 n1 n1 u2 n2 n2 u3 n3 n3 v1 sl pv vs x.sig ∧ ∀ j, j < n2 → (sl j).2.1 ≤ 1048576) ∧ Below W.heap.size W w') := fun W hW => toCrl_g a1 n1 c1 a2 n2 c2 a3 n3 c3 x W (HA.out.kept hW) HZX.out
  have HTY : Hid (∀ (W : World), Below w.heap.size w W → Calls Tryd.prog 9 #[.agg #[.slice b1 m1 d1, .int .i64 y.num, .int .i64 y.base, .int .i64 y.tm, .int .i64 y.next, .int .i64 y.scope, .bool y.ind, .slice b2 m2 d2, .slice b3 m3 d3]] W fun e w' => ∃ u1 u2 u3, e = .returned (.agg #[.slice u1 m1 m1, .int .i64 y.num, .int .i64 y.base, .int .i64 y.tm, .int .i64 y.next, .int .i64 y.scope, .bool y.ind, .slice u2 m2 m2, .slice u3 m3 m3]) ∧ CrG w' u1 m1 u2 m2 u3 m3 y ∧ (∃ v1 sl pv vs, OwnC W.heap.size w' u1 m1 m1 u2 m2 m2 u3 m3 m3 v1 sl pv vs y.sig ∧ ∀ j, j < m2 → (sl j).2.1 ≤ 1048576) ∧ Below W.heap.size W w') := fun W hW => toCrl_g b1 m1 d1 b2 m2 d2 b3 m3 d3 y W (HB.out.kept hW) HZY.out
  have HSP : Hid (∀ (W : World) (u1 u2 u3 v1 v2 v3 : Option Addr), Below w.heap.size w W → CrG W u1 n1 u2 n2 u3 n3 x → CrG W v1 m1 v2 m2 v3 m3 y → Calls Tryd.prog 16 #[.agg #[.slice u1 n1 n1, .int .i64 x.num, .int .i64 x.base, .int .i64 x.tm, .int .i64 x.next, .int .i64 x.scope, .bool x.ind, .slice u2 n2 n2, .slice u3 n3 n3], .agg #[.slice v1 m1 m1, .int .i64 y.num, .int .i64 y.base, .int .i64 y.tm, .int .i64 y.next, .int .i64 y.scope, .bool y.ind, .slice v2 m2 m2, .slice v3 m3 m3]] W fun e w' => ∃ p1 f1 p2 f2 p3 f3, e = .returned (.tuple #[.agg #[.slice p1 m f1, .int .i64 z.num, .int .i64 z.base, .int .i64 z.tm, .int .i64 z.next, .int .i64 z.scope, .bool z.ind, .slice p2 n f2, .slice p3 0 f3], .int .i64 cd]) ∧ AnS 0 w' p1 m f1 p2 n f2 z ∧ Below W.heap.size W w') := fun W u1 u2 u3 v1 v2 v3 hW hu hv => (specApplyDelta_g u1 n1 u2 n2 u3 n3 x v1 m1 v2 m2 v3 m3 y W hu hv HZX.out HZY.out).mono fun e w' q => by
    obtain ⟨p1, f1, p2, f2, p3, f3, h1, h2, h3⟩ := hos _ _ _ q
    exact ⟨p1, f1, p2, f2, p3, f3, h1, h2.zero, h3⟩
  have HIM : Hid (∀ (W : World) (u1 u2 u3 v1 v2 v3 : Option Addr), Below w.heap.size w W → CrG W u1 n1 u2 n2 u3 n3 x → CrG W v1 m1 v2 m2 v3 m3 y → Calls Tryd.prog 17 #[.agg #[.slice u1 n1 n1, .int .i64 x.num, .int .i64 x.base, .int .i64 x.tm, .int .i64 x.next, .int .i64 x.scope, .bool x.ind, .slice u2 n2 n2, .slice u3 n3 n3], .agg #[.slice v1 m1 m1, .int .i64 y.num, .int .i64 y.base, .int .i64 y.tm, .int .i64 y.next, .int .i64 y.scope, .bool y.ind, .slice v2 m2 m2, .slice v3 m3 m3]] W fun e w' => ∃ p1 f1 p2 f2 p3 f3, e = .returned (.tuple #[.agg #[.slice p1 m f1, .int .i64 z.num, .int .i64 z.base, .int .i64 z.tm, .int .i64 z.next, .int .i64 z.scope, .bool z.ind, .slice p2 n f2, .slice p3 0 f3], .int .i64 cd]) ∧ AnI W.heap.size w' p1 m f1 p2 n f2 p3 f3 z ∧ Below W.heap.size W w') := fun W u1 u2 u3 v1 v2 v3 hW hu hv => (implApplyDelta_g u1 n1 u2 n2 u3 n3 x v1 m1 v2 m2 v3 m3 y W (HTB.out W hW) hu hv HZX.out HZY.out HSC.out.1 HSC.out.2).mono fun e w' q => hoi _ _ _ q
  have HIS : Hid (∀ (W : World) (u1 u2 u3 v1 v2 v3 : Option Addr), Below w.heap.size w W → CrG W u1 n1 u2 n2 u3 n3 x → CrG W v1 m1 v2 m2 v3 m3 y → Calls Tryd.prog 17 #[.agg #[.slice u1 n1 n1, .int .i64 x.num, .int .i64 x.base, .int .i64 x.tm, .int .i64 x.next, .int .i64 x.scope, .bool x.ind, .slice u2 n2 n2, .slice u3 n3 n3], .agg #[.slice v1 m1 m1, .int .i64 y.num, .int .i64 y.base, .int .i64 y.tm, .int .i64 y.next, .int .i64 y.scope, .bool y.ind, .slice v2 m2 m2, .slice v3 m3 m3]] W fun e w' => ∃ p1 f1 p2 f2 p3 f3, e = .returned (.tuple #[.agg #[.slice p1 m f1, .int .i64 z.num, .int .i64 z.base, .int .i64 z.tm, .int .i64 z.next, .int .i64 z.scope, .bool z.ind, .slice p2 n f2, .slice p3 0 f3], .int .i64 cd]) ∧ AnS 0 w' p1 m f1 p2 n f2 z ∧ Below W.heap.size W w') := fun W u1 u2 u3 v1 v2 v3 hW hu hv => (implApplyDelta_g u1 n1 u2 n2 u3 n3 x v1 m1 v2 m2 v3 m3 y W (HTB.out W hW) hu hv HZX.out HZY.out HSC.out.1 HSC.out.2).mono fun e w' q => by
    obtain ⟨p1, f1, p2, f2, p3, f3, h1, h2, h3⟩ := (hoi _ _ _ q).s
    exact ⟨p1, f1, p2, f2, p3, f3, h1, h2.zero, h3⟩
  have HCB : Hid (∀ W, Below w2.heap.size w2 W → Below w.heap.size w W) := fun W hW => F2.out.below.trans (hW.mono F2.out.below.size)
  have HBB : w2.heap.size ≤ w2.heap.size := Nat.le_refl _
  clear hoz hos hoi hr0 HTB HSC
  go_upto_region 8 with fail
  refine wp_region_ri (md8 a1 n1 c1 a2 n2 c2 a3 n3 c3 x b1 m1 d1 b2 m2 d2 b3 m3 d3 y z m n cd w.heap.size (w2.heap.size)) [6, 7, 27, 28, 29, 30, 31, 32, 33, 34] (w2.heap.size) (fun a0 => a0.tmps.size = 119 ∧ aT a0 2 = .pointer (some ⟨w.heap.size, 0, none⟩) ∧ aT a0 3 = .pointer (some ⟨(w.heap.size + 1), 0, none⟩)) (by kernel_rfl) rfl (by kernel_rfl) rfl ⟨rfl, rfl, rfl⟩ (md8_stb a1 n1 c1 a2 n2 c2 a3 n3 c3 x b1 m1 d1 b2 m2 d2 b3 m3 d3 y z m n cd w.heap.size (w2.heap.size)) ?_ ?_ ?_
  · intro k hk hk2
    match k, hk, hk2 with
    | 11, _, _ => exact (F2.out.all (w.heap.size, #[.slice a1 n1 c1, .int .i64 x.num, .int .i64 x.base, .int .i64 x.tm, .int .i64 x.next, .int .i64 x.scope, .bool x.ind, .slice a2 n2 c2, .slice a3 n3 c3], 28) (by simp))
    | 12, _, _ => exact (F2.out.all (w.heap.size + 1, #[.slice b1 m1 d1, .int .i64 y.num, .int .i64 y.base, .int .i64 y.tm, .int .i64 y.next, .int .i64 y.scope, .bool y.ind, .slice b2 m2 d2, .slice b3 m3 d3], 28) (by simp))
    | 0, hk, _ => exact absurd hk (by show ¬ (11 ≤ 0); omega)
    | 1, hk, _ => exact absurd hk (by show ¬ (11 ≤ 1); omega)
    | 2, hk, _ => exact absurd hk (by show ¬ (11 ≤ 2); omega)
    | 3, hk, _ => exact absurd hk (by show ¬ (11 ≤ 3); omega)
    | 4, hk, _ => exact absurd hk (by show ¬ (11 ≤ 4); omega)
    | 5, hk, _ => exact absurd hk (by show ¬ (11 ≤ 5); omega)
    | 6, hk, _ => exact absurd hk (by show ¬ (11 ≤ 6); omega)
    | 7, hk, _ => exact absurd hk (by show ¬ (11 ≤ 7); omega)
    | 8, hk, _ => exact absurd hk (by show ¬ (11 ≤ 8); omega)
    | 9, hk, _ => exact absurd hk (by show ¬ (11 ≤ 9); omega)
    | 10, hk, _ => exact absurd hk (by show ¬ (11 ≤ 10); omega)
    | k + 13, _, hk2 => exact absurd hk2 (by show ¬ (k + 13 < 13); omega)
  · rintro a0 ⟨hz, g2, g3⟩
    refine StepsRI.cons ?_ (StepsRI.cons ?_ (StepsRI.cons ?_ (StepsRI.cons ?_ (StepsRI.cons ?_ (StepsRI.cons ?_ (StepsRI.cons ?_ (StepsRI.cons ?_ (StepsRI.cons ?_ (StepsRI.cons ?_ (StepsRI.cons ?_ (StepsRI.nil)))))))))))
    · intro lQ b W hI hUN hED KQ hKQ
      have hg := (hI.vot 11 (of_decide_eq_true rfl) (of_decide_eq_true rfl) rfl)
      refine wp_load_row 28 _ rfl (w.heap.size) ((hI.fr.same 2 (by decide)).trans g2) 28 #[.slice a1 n1 c1, .int .i64 x.num, .int .i64 x.base, .int .i64 x.tm, .int .i64 x.next, .int .i64 x.scope, .bool x.ind, .slice a2 n2 c2, .slice a3 n3 c3] (0, 0) _ hg Tryd.underlying28 rfl (by kernel_rfl) ?_
      exact hKQ.out _ _ (hI.put 0 28 rfl rfl (by rw [hz]; decide) rfl hUN rfl HBB (md8_stb a1 n1 c1 a2 n2 c2 a3 n3 c3 x b1 m1 d1 b2 m2 d2 b3 m3 d3 y z m n cd w.heap.size (w2.heap.size)) (Below.refl _ _) rfl)
    · intro lQ b W hI hUN hED KQ hKQ
      have f0 := hI.got 0 (of_decide_eq_true rfl) (edge hED 0 (by kernel_rfl)) rfl
      replace f0 : aT b 28 = .agg #[.slice a1 n1 c1, .int .i64 x.num, .int .i64 x.base, .int .i64 x.tm, .int .i64 x.next, .int .i64 x.scope, .bool x.ind, .slice a2 n2 c2, .slice a3 n3 c3] := f0
      refine opw_call 9 #[.tmp 28] _ _ _ rfl Tryd.func9 (by kernel_rfl) rfl #[.agg #[.slice a1 n1 c1, .int .i64 x.num, .int .i64 x.base, .int .i64 x.tm, .int .i64 x.next, .int .i64 x.scope, .bool x.ind, .slice a2 n2 c2, .slice a3 n3 c3]] (by simp [ev, f0]) ?_
      refine (HTX.out W (HCB.out W hI.bel)).mono ?_
      rintro e W2 ⟨u1, u2, u3, rfl, hk, _, hb⟩
      exact ⟨_, rfl, hKQ.out _ _ (hI.put 1 29 rfl rfl (by rw [hz]; decide) rfl hUN rfl HBB (md8_stb a1 n1 c1 a2 n2 c2 a3 n3 c3 x b1 m1 d1 b2 m2 d2 b3 m3 d3 y z m n cd w.heap.size (w2.heap.size)) hb ⟨u1, u2, u3, rfl, hk⟩)⟩
    · intro lQ b W hI hUN hED KQ hKQ
      have hg := (hI.vot 12 (of_decide_eq_true rfl) (of_decide_eq_true rfl) rfl)
      refine wp_load_row 28 _ rfl ((w.heap.size + 1)) ((hI.fr.same 3 (by decide)).trans g3) 28 #[.slice b1 m1 d1, .int .i64 y.num, .int .i64 y.base, .int .i64 y.tm, .int .i64 y.next, .int .i64 y.scope, .bool y.ind, .slice b2 m2 d2, .slice b3 m3 d3] (0, 0) _ hg Tryd.underlying28 rfl (by kernel_rfl) ?_
      exact hKQ.out _ _ (hI.put 2 30 rfl rfl (by rw [hz]; decide) rfl hUN rfl HBB (md8_stb a1 n1 c1 a2 n2 c2 a3 n3 c3 x b1 m1 d1 b2 m2 d2 b3 m3 d3 y z m n cd w.heap.size (w2.heap.size)) (Below.refl _ _) rfl)
    · intro lQ b W hI hUN hED KQ hKQ
      have f0 := hI.got 2 (of_decide_eq_true rfl) (edge hED 2 (by kernel_rfl)) rfl
      replace f0 : aT b 30 = .agg #[.slice b1 m1 d1, .int .i64 y.num, .int .i64 y.base, .int .i64 y.tm, .int .i64 y.next, .int .i64 y.scope, .bool y.ind, .slice b2 m2 d2, .slice b3 m3 d3] := f0
      refine opw_call 9 #[.tmp 30] _ _ _ rfl Tryd.func9 (by kernel_rfl) rfl #[.agg #[.slice b1 m1 d1, .int .i64 y.num, .int .i64 y.base, .int .i64 y.tm, .int .i64 y.next, .int .i64 y.scope, .bool y.ind, .slice b2 m2 d2, .slice b3 m3 d3]] (by simp [ev, f0]) ?_
      refine (HTY.out W (HCB.out W hI.bel)).mono ?_
      rintro e W2 ⟨v1, v2, v3, rfl, hk, _, hb⟩
      exact ⟨_, rfl, hKQ.out _ _ (hI.put 3 31 rfl rfl (by rw [hz]; decide) rfl hUN rfl HBB (md8_stb a1 n1 c1 a2 n2 c2 a3 n3 c3 x b1 m1 d1 b2 m2 d2 b3 m3 d3 y z m n cd w.heap.size (w2.heap.size)) hb ⟨v1, v2, v3, rfl, hk⟩)⟩
    · intro lQ b W hI hUN hED KQ hKQ
      have f0 := hI.got1 1 4 (of_decide_eq_true rfl) (edge hED 1 (by kernel_rfl)) hUN rfl
      obtain ⟨u1, u2, u3, f0, o0_0⟩ := f0
      replace f0 : aT b 29 = .agg #[.slice u1 n1 n1, .int .i64 x.num, .int .i64 x.base, .int .i64 x.tm, .int .i64 x.next, .int .i64 x.scope, .bool x.ind, .slice u2 n2 n2, .slice u3 n3 n3] := f0
      have f1 := hI.got1 3 4 (of_decide_eq_true rfl) (edge hED 3 (by kernel_rfl)) hUN rfl
      obtain ⟨v1, v2, v3, f1, o1_0⟩ := f1
      replace f1 : aT b 31 = .agg #[.slice v1 m1 m1, .int .i64 y.num, .int .i64 y.base, .int .i64 y.tm, .int .i64 y.next, .int .i64 y.scope, .bool y.ind, .slice v2 m2 m2, .slice v3 m3 m3] := f1
      refine opw_call 16 #[.tmp 29, .tmp 31] _ _ _ rfl Tryd.func16 (by kernel_rfl) rfl #[.agg #[.slice u1 n1 n1, .int .i64 x.num, .int .i64 x.base, .int .i64 x.tm, .int .i64 x.next, .int .i64 x.scope, .bool x.ind, .slice u2 n2 n2, .slice u3 n3 n3], .agg #[.slice v1 m1 m1, .int .i64 y.num, .int .i64 y.base, .int .i64 y.tm, .int .i64 y.next, .int .i64 y.scope, .bool y.ind, .slice v2 m2 m2, .slice v3 m3 m3]] (by simp [ev, f0, f1]) ?_
      refine (HSP.out W u1 u2 u3 v1 v2 v3 (HCB.out W hI.bel) o0_0 o1_0).mono ?_
      rintro e W2 ⟨p1, f1, p2, f2, p3, f3, rfl, hk, hb⟩
      exact ⟨_, rfl, hKQ.out _ _ (hI.put 4 32 rfl rfl (by rw [hz]; decide) rfl hUN rfl HBB (md8_stb a1 n1 c1 a2 n2 c2 a3 n3 c3 x b1 m1 d1 b2 m2 d2 b3 m3 d3 y z m n cd w.heap.size (w2.heap.size)) hb ⟨p1, f1, p2, f2, p3, f3, rfl, hk⟩)⟩
    · intro lQ b W hI hUN hED KQ hKQ
      have f := hI.got 4 (of_decide_eq_true rfl) (edge hED 4 (by kernel_rfl)) rfl
      exact opw_move 32 rfl (hKQ.out _ _ (hI.put 5 27 rfl rfl (by rw [hz]; decide) rfl hUN rfl HBB (md8_stb a1 n1 c1 a2 n2 c2 a3 n3 c3 x b1 m1 d1 b2 m2 d2 b3 m3 d3 y z m n cd w.heap.size (w2.heap.size)) (Below.refl _ _) f))
    · intro lQ b W hI hUN hED KQ hKQ
      have f := hI.got 5 (of_decide_eq_true rfl) (edge hED 5 (by kernel_rfl)) rfl
      obtain ⟨p1, f1, p2, f2, p3, f3, f, o_0⟩ := f
      exact opw_extract 27 0 rfl _ _ f rfl (hKQ.out _ _ (hI.put 6 33 rfl rfl (by rw [hz]; decide) rfl hUN rfl HBB (md8_stb a1 n1 c1 a2 n2 c2 a3 n3 c3 x b1 m1 d1 b2 m2 d2 b3 m3 d3 y z m n cd w.heap.size (w2.heap.size)) (Below.refl _ _) ⟨p1, f1, p2, f2, p3, f3, rfl, o_0⟩))
    · intro lQ b W hI hUN hED KQ hKQ
      have f := hI.got 5 (of_decide_eq_true rfl) (edge hED 5 (by kernel_rfl)) rfl
      obtain ⟨p1, f1, p2, f2, p3, f3, f, o_0⟩ := f
      exact opw_extract 27 1 rfl _ _ f rfl (hKQ.out _ _ (hI.put 7 34 rfl rfl (by rw [hz]; decide) rfl hUN rfl HBB (md8_stb a1 n1 c1 a2 n2 c2 a3 n3 c3 x b1 m1 d1 b2 m2 d2 b3 m3 d3 y z m n cd w.heap.size (w2.heap.size)) (Below.refl _ _) rfl))
    · intro lQ b W hI hUN hED KQ hKQ
      refine opw_value (w' := W.alloc (.cells #[.slice none 0 0, .int .i64 0, .int .i64 0, .int .i64 0, .int .i64 0, .int .i64 0, .bool false, .slice none 0 0, .slice none 0 0] 36)) (.pointer (some ⟨W.heap.size, 0, none⟩)) (by kernel_rfl) ?_
      exact hKQ.out _ _ (hI.put 8 6 rfl rfl (by rw [hz]; decide) rfl hUN rfl HBB (md8_stb a1 n1 c1 a2 n2 c2 a3 n3 c3 x b1 m1 d1 b2 m2 d2 b3 m3 d3 y z m n cd w.heap.size (w2.heap.size)) ((Below.refl _ _).alloc (Nat.le_refl _) _) ⟨W.heap.size, rfl, heap_alloc_new W _, Nat.le_trans HBB hI.bel.size⟩)
    · intro lQ b W hI hUN hED KQ hKQ
      obtain ⟨g, fb, hgb, hge⟩ := hI.got1 8 9 (of_decide_eq_true rfl) (edge hED 8 (by kernel_rfl)) hUN rfl
      have f := hI.got 6 (of_decide_eq_true rfl) (edge hED 6 (by kernel_rfl)) rfl
      obtain ⟨p1, f1, p2, f2, p3, f3, f, o_0⟩ := f
      refine wp_store_row 36 _ _ rfl g #[.slice p1 m f1, .int .i64 z.num, .int .i64 z.base, .int .i64 z.tm, .int .i64 z.next, .int .i64 z.scope, .bool z.ind, .slice p2 n f2, .slice p3 0 f3] fb f 36 _ hgb (by kernel_rfl) rfl (by simp [Value.oneCell']) ?_
      have ht := setRow_touch W g #[.slice p1 m f1, .int .i64 z.num, .int .i64 z.base, .int .i64 z.tm, .int .i64 z.next, .int .i64 z.scope, .bool z.ind, .slice p2 n f2, .slice p3 0 f3]
      exact hKQ.out _ _ (hI.storel 9 (fun j hj => by
          rcases List.mem_cons.1 hj with rfl | hj
          · exact edge hED 8 (by kernel_rfl)
          rcases List.mem_singleton.1 hj with rfl
          exact edge hED 4 (by kernel_rfl)) (hI.bel.trans (ht.below hge (Nat.le_trans HBB hI.bel.size))) (md8_st9 a1 n1 c1 a2 n2 c2 a3 n3 c3 x b1 m1 d1 b2 m2 d2 b3 m3 d3 y z m n cd w.heap.size (w2.heap.size) hgb ht hge hI.cl hUN (fun j hj => by
          rcases List.mem_cons.1 hj with rfl | hj
          · exact edge hED 8 (by kernel_rfl)
          rcases List.mem_singleton.1 hj with rfl
          exact edge hED 4 (by kernel_rfl))) ⟨g, p1, f1, p2, f2, p3, f3, fb, (setRow_heap W g _ _ _ _ hgb), hge, o_0.touched hgb (by decide) (by decide) ht⟩)
    · intro lQ b W hI hUN hED KQ hKQ
      have f := hI.got 7 (of_decide_eq_true rfl) (edge hED 7 (by kernel_rfl)) rfl
      exact opw_assign 34 rfl (hKQ.out _ _ (hI.put 10 7 rfl rfl (by rw [hz]; decide) rfl hUN rfl HBB (md8_stb a1 n1 c1 a2 n2 c2 a3 n3 c3 x b1 m1 d1 b2 m2 d2 b3 m3 d3 y z m n cd w.heap.size (w2.heap.size)) (Below.refl _ _) f))
  · intro b W hf hb F
    obtain ⟨gs, p1, f1, p2, f2, p3, f3, eB, hX, hXge, hA⟩ := F 9 (of_decide_eq_true rfl) rfl
    replace eB : aT b 6 = _ := eB
    have eC := F 10 (of_decide_eq_true rfl) rfl
    replace eC : aT b 7 = _ := eC
    rw [hf.eq]
    simp only [puts, Act.put, List.setIfInBounds_toArray, List.set_cons_zero, List.set_cons_succ, eB, eC]
    clear hf F
    clear eB eC
    generalize aT b = AT
    clear b
    obtain ⟨w3, hW⟩ : ∃ w3, w3 = W := ⟨_, rfl⟩
    subst hW
    have HB3 : Hid (Below w.heap.size w w3) := HCB.out w3 hb
    have F3 : Hid (FrL w3 [(w.heap.size, #[.slice a1 n1 c1, .int .i64 x.num, .int .i64 x.base, .int .i64 x.tm, .int .i64 x.next, .int .i64 x.scope, .bool x.ind, .slice a2 n2 c2, .slice a3 n3 c3], 28), (w.heap.size + 1, #[.slice b1 m1 d1, .int .i64 y.num, .int .i64 y.base, .int .i64 y.tm, .int .i64 y.next, .int .i64 y.scope, .bool y.ind, .slice b2 m2 d2, .slice b3 m3 d3], 28), (gs, #[.slice p1 m f1, .int .i64 z.num, .int .i64 z.base, .int .i64 z.tm, .int .i64 z.next, .int .i64 z.scope, .bool z.ind, .slice p2 n f2, .slice p3 0 f3], 36)] w3) := ⟨Below.refl _ _, fun p hp => by
      have h1 := F2.out.on hb
      simp only [List.mem_cons, List.not_mem_nil, or_false] at hp
      rcases hp with rfl | rfl | rfl
      · exact h1.all _ (by simp)
      · exact h1.all _ (by simp)
      · exact hX⟩
    have HS3 : Hid (AnS 0 w3 p1 m f1 p2 n f2 z) := hA
    have hgs : gs < w3.heap.size := (Array.getElem?_eq_some_iff.1 hX).1
    have hw1 : w.heap.size + 1 < w3.heap.size := (Array.getElem?_eq_some_iff.1 (F3.out.all (w.heap.size + 1, #[.slice b1 m1 d1, .int .i64 y.num, .int .i64 y.base, .int .i64 y.tm, .int .i64 y.next, .int .i64 y.scope, .bool y.ind, .slice b2 m2 d2, .slice b3 m3 d3], 28) (by simp))).1
    clear hb hX hXge hA F2 HCB HBB
    go_wp2_with (refine wpList_load_row rfl 28 _ rfl (w.heap.size) rfl 28 #[.slice a1 n1 c1, .int .i64 x.num, .int .i64 x.base, .int .i64 x.tm, .int .i64 x.next, .int .i64 x.scope, .bool x.ind, .slice a2 n2 c2, .slice a3 n3 c3] (0, 0) _ (F3.out.all (w.heap.size, #[.slice a1 n1 c1, .int .i64 x.num, .int .i64 x.base, .int .i64 x.tm, .int .i64 x.next, .int .i64 x.scope, .bool x.ind, .slice a2 n2 c2, .slice a3 n3 c3], 28) (by simp)) Tryd.underlying28 rfl (by kernel_rfl) ?_)
    refine (HTX.out _ (HB3.out.trans (F3.out.below.mono HB3.out.size))).mono ?_
    rintro e w4 ⟨t1, t2, t3, rfl, hk, ⟨vx, slx, pvx, vsx, ho, hl⟩, hb⟩
    obtain ⟨w5, hw⟩ : ∃ w5, w5 = w4.alloc (.cells #[.slice t1 n1 n1, .int .i64 x.num, .int .i64 x.base, .int .i64 x.tm, .int .i64 x.next, .int .i64 x.scope, .bool x.ind, .slice t2 n2 n2, .slice t3 n3 n3] 36) := ⟨_, rfl⟩
    have hb2 : Below w4.heap.size w4 w5 := by rw [hw]; exact (Below.refl _ _).alloc (Nat.le_refl _) _
    have hx : w5.heap[w4.heap.size]? = some (.cells #[.slice t1 n1 n1, .int .i64 x.num, .int .i64 x.base, .int .i64 x.tm, .int .i64 x.next, .int .i64 x.scope, .bool x.ind, .slice t2 n2 n2, .slice t3 n3 n3] 36 (0, 0)) := by rw [hw]; exact heap_alloc_new w4 _
    have hb3 := hb.trans (hb2.mono hb.size)
    have F5 : Hid (_) := (F3.out.on hb3).add (w4.heap.size, #[.slice t1 n1 n1, .int .i64 x.num, .int .i64 x.base, .int .i64 x.tm, .int .i64 x.next, .int .i64 x.scope, .bool x.ind, .slice t2 n2 n2, .slice t3 n3 n3], 36) hx
    have KX5 : Hid (_) := hk.kept hb2
    have OX5 : Hid (_) := ho.below hb2
    have HIX : Hid (_) := ho.inC
    have HLX : Hid (∀ j, j < n2 → (slx j).2.1 ≤ 1048576) := hl
    have hs4 := hb.size
    have hs5 : w4.heap.size < w5.heap.size := (Array.getElem?_eq_some_iff.1 hx).1
    have HW : Hid (_) := hw
    clear hb hb2 hb3 hx hk ho hl hw F3
    go_upto_region 10 with fail
    rw [← HW.out]
    clear HW
    go_wp2_with (refine wpList_load_row rfl 28 _ rfl (w.heap.size + 1) rfl 28 #[.slice b1 m1 d1, .int .i64 y.num, .int .i64 y.base, .int .i64 y.tm, .int .i64 y.next, .int .i64 y.scope, .bool y.ind, .slice b2 m2 d2, .slice b3 m3 d3] (0, 0) _ (F5.out.all (w.heap.size + 1, #[.slice b1 m1 d1, .int .i64 y.num, .int .i64 y.base, .int .i64 y.tm, .int .i64 y.next, .int .i64 y.scope, .bool y.ind, .slice b2 m2 d2, .slice b3 m3 d3], 28) (by simp)) Tryd.underlying28 rfl (by kernel_rfl) ?_)
    refine (HTY.out _ (HB3.out.trans (F5.out.below.mono HB3.out.size))).mono ?_
    rintro e w6 ⟨r1, r2, r3, rfl, hk, ⟨vy, sly, pvy, vsy, ho, hl⟩, hb⟩
    obtain ⟨w7, hw⟩ : ∃ w7, w7 = w6.alloc (.cells #[.slice r1 m1 m1, .int .i64 y.num, .int .i64 y.base, .int .i64 y.tm, .int .i64 y.next, .int .i64 y.scope, .bool y.ind, .slice r2 m2 m2, .slice r3 m3 m3] 36) := ⟨_, rfl⟩
    have hb2 : Below w6.heap.size w6 w7 := by rw [hw]; exact (Below.refl _ _).alloc (Nat.le_refl _) _
    have hx : w7.heap[w6.heap.size]? = some (.cells #[.slice r1 m1 m1, .int .i64 y.num, .int .i64 y.base, .int .i64 y.tm, .int .i64 y.next, .int .i64 y.scope, .bool y.ind, .slice r2 m2 m2, .slice r3 m3 m3] 36 (0, 0)) := by rw [hw]; exact heap_alloc_new w6 _
    have hb3 := hb.trans (hb2.mono hb.size)
    have F7 : Hid (_) := (F5.out.on hb3).add (w6.heap.size, #[.slice r1 m1 m1, .int .i64 y.num, .int .i64 y.base, .int .i64 y.tm, .int .i64 y.next, .int .i64 y.scope, .bool y.ind, .slice r2 m2 m2, .slice r3 m3 m3], 36) hx
    have KY7 : Hid (_) := hk.kept hb2
    have OY7 : Hid (_) := ho.below hb2
    have HIY : Hid (_) := ho.inC
    have HLY : Hid (∀ j, j < m2 → (sly j).2.1 ≤ 1048576) := hl
    have KX7 : Hid (_) := KX5.out.kept hb3
    have OX7 : Hid (_) := OX5.out.below hb3
    have hs6 := hb.size
    have hs7 : w6.heap.size < w7.heap.size := (Array.getElem?_eq_some_iff.1 hx).1
    have HW : Hid (_) := hw
    clear hb hb2 hb3 hx hk ho hl hw F5 KX5 OX5
    go_upto_region 11 with fail
    rw [← HW.out]
    clear HW
    go_wp2_with (first | (refine wpList_load_row rfl 36 _ rfl (w4.heap.size) rfl 36 #[.slice t1 n1 n1, .int .i64 x.num, .int .i64 x.base, .int .i64 x.tm, .int .i64 x.next, .int .i64 x.scope, .bool x.ind, .slice t2 n2 n2, .slice t3 n3 n3] (0, 0) _ (F7.out.all (w4.heap.size, #[.slice t1 n1 n1, .int .i64 x.num, .int .i64 x.base, .int .i64 x.tm, .int .i64 x.next, .int .i64 x.scope, .bool x.ind, .slice t2 n2 n2, .slice t3 n3 n3], 36) (by simp)) Tryd.underlying36 rfl (by kernel_rfl) ?_) | (refine wpList_load_row rfl 36 _ rfl (w6.heap.size) rfl 36 #[.slice r1 m1 m1, .int .i64 y.num, .int .i64 y.base, .int .i64 y.tm, .int .i64 y.next, .int .i64 y.scope, .bool y.ind, .slice r2 m2 m2, .slice r3 m3 m3] (0, 0) _ (F7.out.all (w6.heap.size, #[.slice r1 m1 m1, .int .i64 y.num, .int .i64 y.base, .int .i64 y.tm, .int .i64 y.next, .int .i64 y.scope, .bool y.ind, .slice r2 m2 m2, .slice r3 m3 m3], 36) (by simp)) Tryd.underlying36 rfl (by kernel_rfl) ?_))
    refine (HIM.out _ t1 t2 t3 r1 r2 r3 (HB3.out.trans (F7.out.below.mono HB3.out.size)) KX7.out KY7.out).mono ?_
    rintro e w8 ⟨g1, h1, g2, h2, g3, h3, rfl, ⟨slg, haw, vg, pvg, vsg, hog⟩, hb⟩
    obtain ⟨w9, hw⟩ : ∃ w9, w9 = w8.alloc (.cells #[.slice g1 m h1, .int .i64 z.num, .int .i64 z.base, .int .i64 z.tm, .int .i64 z.next, .int .i64 z.scope, .bool z.ind, .slice g2 n h2, .slice g3 0 h3] 36) := ⟨_, rfl⟩
    have hb2 : Below w8.heap.size w8 w9 := by rw [hw]; exact (Below.refl _ _).alloc (Nat.le_refl _) _
    have hx : w9.heap[w8.heap.size]? = some (.cells #[.slice g1 m h1, .int .i64 z.num, .int .i64 z.base, .int .i64 z.tm, .int .i64 z.next, .int .i64 z.scope, .bool z.ind, .slice g2 n h2, .slice g3 0 h3] 36 (0, 0)) := by rw [hw]; exact heap_alloc_new w8 _
    have hb3 := hb.trans (hb2.mono hb.size)
    have F9 : Hid (_) := (F7.out.on hb3).add (w8.heap.size, #[.slice g1 m h1, .int .i64 z.num, .int .i64 z.base, .int .i64 z.tm, .int .i64 z.next, .int .i64 z.scope, .bool z.ind, .slice g2 n h2, .slice g3 0 h3], 36) hx
    have AW9 : Hid (_) := haw.kept hb2
    have OG9 : Hid (_) := hog.below hb2
    have HIG : Hid (_) := hog.inC
    have HLG : Hid (∀ j, j < n → (slg j).2.1 ≤ 1048576) := fun j hj => by rw [haw.hl j hj]; exact (HOZ.out.2.2.2.1 j hj).1
    have KX9 : Hid (_) := KX7.out.kept hb3
    have OX9 : Hid (_) := OX7.out.below hb3
    have KY9 : Hid (_) := KY7.out.kept hb3
    have OY9 : Hid (_) := OY7.out.below hb3
    have hs8 := hb.size
    have hs9 : w8.heap.size < w9.heap.size := (Array.getElem?_eq_some_iff.1 hx).1
    have HW : Hid (_) := hw
    clear hb hb2 hb3 hx haw hog hw F7 KX7 OX7 KY7 OY7
    go_upto_region 12 with fail
    rw [← HW.out]
    clear HW
    go_wp2_with (first | (refine wpList_load_row rfl 36 _ rfl (w8.heap.size) rfl 36 #[.slice g1 m h1, .int .i64 z.num, .int .i64 z.base, .int .i64 z.tm, .int .i64 z.next, .int .i64 z.scope, .bool z.ind, .slice g2 n h2, .slice g3 0 h3] (0, 0) _ (F9.out.all (w8.heap.size, #[.slice g1 m h1, .int .i64 z.num, .int .i64 z.base, .int .i64 z.tm, .int .i64 z.next, .int .i64 z.scope, .bool z.ind, .slice g2 n h2, .slice g3 0 h3], 36) (by simp)) Tryd.underlying36 rfl (by kernel_rfl) ?_) | (refine wpList_load_row rfl 36 _ rfl (gs) rfl 36 #[.slice p1 m f1, .int .i64 z.num, .int .i64 z.base, .int .i64 z.tm, .int .i64 z.next, .int .i64 z.scope, .bool z.ind, .slice p2 n f2, .slice p3 0 f3] (0, 0) _ (F9.out.all (gs, #[.slice p1 m f1, .int .i64 z.num, .int .i64 z.base, .int .i64 z.tm, .int .i64 z.next, .int .i64 z.scope, .bool z.ind, .slice p2 n f2, .slice p3 0 f3], 36) (by simp)) Tryd.underlying36 rfl (by kernel_rfl) ?_))
    refine (eqCrl_raw g1 m h1 g2 n h2 g3 0 h3 p1 f1 p2 f2 p3 f3 z _ (AW9.out.crs HOZ.out) ((HS3.out.kept F9.out.below).crs HOZ.out) (by omega)).mono ?_
    rintro e w10 ⟨rfl, hb⟩
    have F10 : Hid (_) := F9.out.on hb
    have KX10 : Hid (_) := KX9.out.kept hb
    have OX10 : Hid (_) := OX9.out.below hb
    have KY10 : Hid (_) := KY9.out.kept hb
    have OY10 : Hid (_) := OY9.out.below hb
    have AW10 : Hid (_) := AW9.out.kept hb
    have OG10 : Hid (_) := OG9.out.below hb
    clear F9 KX9 OX9 KY9 OY9 AW9 OG9
    clear hb
    have tc : (cd != cd) = false := by simp
    have HCB : Hid (∀ W, Below w10.heap.size w10 W → Below w.heap.size w W) := fun W hW => HB3.out.trans ((F10.out.below.trans (hW.mono F10.out.below.size)).mono HB3.out.size)
    have HBB : w10.heap.size ≤ w10.heap.size := Nat.le_refl _
    have HKT : Hid (∀ W, Below w10.heap.size w10 W → Crs W t1 n1 t2 n2 t3 n3 x) := fun W hW => (KX10.out.kept hW).crs
    go_upto_region 14 with fail
    refine wp_region_ri (md14 a1 n1 c1 a2 n2 c2 a3 n3 c3 x b1 m1 d1 b2 m2 d2 b3 m3 d3 y t1 t2 t3 w4.heap.size w.heap.size (w10.heap.size)) [54, 55, 56, 57, 58] (w10.heap.size) (fun a0 => a0.tmps.size = 119 ∧ aT a0 2 = .pointer (some ⟨w.heap.size, 0, none⟩) ∧ aT a0 8 = .pointer (some ⟨w4.heap.size, 0, none⟩)) (by kernel_rfl) rfl (by kernel_rfl) rfl ⟨rfl, rfl, rfl⟩ (md14_stb a1 n1 c1 a2 n2 c2 a3 n3 c3 x b1 m1 d1 b2 m2 d2 b3 m3 d3 y t1 t2 t3 w4.heap.size w.heap.size (w10.heap.size)) ?_ ?_ ?_
    · intro k hk hk2
      match k, hk, hk2 with
      | 5, _, _ => exact (F10.out.all (w4.heap.size, #[.slice t1 n1 n1, .int .i64 x.num, .int .i64 x.base, .int .i64 x.tm, .int .i64 x.next, .int .i64 x.scope, .bool x.ind, .slice t2 n2 n2, .slice t3 n3 n3], 36) (by simp))
      | 6, _, _ => exact (F10.out.all (w.heap.size, #[.slice a1 n1 c1, .int .i64 x.num, .int .i64 x.base, .int .i64 x.tm, .int .i64 x.next, .int .i64 x.scope, .bool x.ind, .slice a2 n2 c2, .slice a3 n3 c3], 28) (by simp))
      | 0, hk, _ => exact absurd hk (by show ¬ (5 ≤ 0); omega)
      | 1, hk, _ => exact absurd hk (by show ¬ (5 ≤ 1); omega)
      | 2, hk, _ => exact absurd hk (by show ¬ (5 ≤ 2); omega)
      | 3, hk, _ => exact absurd hk (by show ¬ (5 ≤ 3); omega)
      | 4, hk, _ => exact absurd hk (by show ¬ (5 ≤ 4); omega)
      | k + 7, _, hk2 => exact absurd hk2 (by show ¬ (k + 7 < 7); omega)
    · rintro a0 ⟨hz, g2, g8⟩
      refine StepsRI.cons ?_ (StepsRI.cons ?_ (StepsRI.cons ?_ (StepsRI.cons ?_ (StepsRI.cons ?_ (StepsRI.nil)))))
      · intro lQ b W hI hUN hED KQ hKQ
        have hg := (hI.vot 5 (of_decide_eq_true rfl) (of_decide_eq_true rfl) rfl)
        refine wp_load_row 36 _ rfl (w4.heap.size) ((hI.fr.same 8 (by decide)).trans g8) 36 #[.slice t1 n1 n1, .int .i64 x.num, .int .i64 x.base, .int .i64 x.tm, .int .i64 x.next, .int .i64 x.scope, .bool x.ind, .slice t2 n2 n2, .slice t3 n3 n3] (0, 0) _ hg Tryd.underlying36 rfl (by kernel_rfl) ?_
        exact hKQ.out _ _ (hI.put 0 54 rfl rfl (by rw [hz]; decide) rfl hUN rfl HBB (md14_stb a1 n1 c1 a2 n2 c2 a3 n3 c3 x b1 m1 d1 b2 m2 d2 b3 m3 d3 y t1 t2 t3 w4.heap.size w.heap.size (w10.heap.size)) (Below.refl _ _) rfl)
      · intro lQ b W hI hUN hED KQ hKQ
        have hg := (hI.vot 6 (of_decide_eq_true rfl) (of_decide_eq_true rfl) rfl)
        refine wp_load_row 28 _ rfl (w.heap.size) ((hI.fr.same 2 (by decide)).trans g2) 28 #[.slice a1 n1 c1, .int .i64 x.num, .int .i64 x.base, .int .i64 x.tm, .int .i64 x.next, .int .i64 x.scope, .bool x.ind, .slice a2 n2 c2, .slice a3 n3 c3] (0, 0) _ hg Tryd.underlying28 rfl (by kernel_rfl) ?_
        exact hKQ.out _ _ (hI.put 1 55 rfl rfl (by rw [hz]; decide) rfl hUN rfl HBB (md14_stb a1 n1 c1 a2 n2 c2 a3 n3 c3 x b1 m1 d1 b2 m2 d2 b3 m3 d3 y t1 t2 t3 w4.heap.size w.heap.size (w10.heap.size)) (Below.refl _ _) rfl)
      · intro lQ b W hI hUN hED KQ hKQ
        have f0 := hI.got 1 (of_decide_eq_true rfl) (edge hED 1 (by kernel_rfl)) rfl
        replace f0 : aT b 55 = .agg #[.slice a1 n1 c1, .int .i64 x.num, .int .i64 x.base, .int .i64 x.tm, .int .i64 x.next, .int .i64 x.scope, .bool x.ind, .slice a2 n2 c2, .slice a3 n3 c3] := f0
        refine opw_call 9 #[.tmp 55] _ _ _ rfl Tryd.func9 (by kernel_rfl) rfl #[.agg #[.slice a1 n1 c1, .int .i64 x.num, .int .i64 x.base, .int .i64 x.tm, .int .i64 x.next, .int .i64 x.scope, .bool x.ind, .slice a2 n2 c2, .slice a3 n3 c3]] (by simp [ev, f0]) ?_
        refine (HTX.out W (HCB.out W hI.bel)).mono ?_
        rintro e W2 ⟨s1, s2, s3, rfl, hk, _, hb⟩
        exact ⟨_, rfl, hKQ.out _ _ (hI.put 2 56 rfl rfl (by rw [hz]; decide) rfl hUN rfl HBB (md14_stb a1 n1 c1 a2 n2 c2 a3 n3 c3 x b1 m1 d1 b2 m2 d2 b3 m3 d3 y t1 t2 t3 w4.heap.size w.heap.size (w10.heap.size)) hb ⟨s1, s2, s3, rfl, hk⟩)⟩
      · intro lQ b W hI hUN hED KQ hKQ
        have f0 := hI.got 0 (of_decide_eq_true rfl) (edge hED 0 (by kernel_rfl)) rfl
        replace f0 : aT b 54 = .agg #[.slice t1 n1 n1, .int .i64 x.num, .int .i64 x.base, .int .i64 x.tm, .int .i64 x.next, .int .i64 x.scope, .bool x.ind, .slice t2 n2 n2, .slice t3 n3 n3] := f0
        have f1 := hI.got 2 (of_decide_eq_true rfl) (edge hED 2 (by kernel_rfl)) rfl
        obtain ⟨s1, s2, s3, f1, o1_0⟩ := f1
        replace f1 : aT b 56 = .agg #[.slice s1 n1 n1, .int .i64 x.num, .int .i64 x.base, .int .i64 x.tm, .int .i64 x.next, .int .i64 x.scope, .bool x.ind, .slice s2 n2 n2, .slice s3 n3 n3] := f1
        refine opw_call 11 #[.tmp 54, .tmp 56] _ _ _ rfl Tryd.func11 (by kernel_rfl) rfl #[.agg #[.slice t1 n1 n1, .int .i64 x.num, .int .i64 x.base, .int .i64 x.tm, .int .i64 x.next, .int .i64 x.scope, .bool x.ind, .slice t2 n2 n2, .slice t3 n3 n3], .agg #[.slice s1 n1 n1, .int .i64 x.num, .int .i64 x.base, .int .i64 x.tm, .int .i64 x.next, .int .i64 x.scope, .bool x.ind, .slice s2 n2 n2, .slice s3 n3 n3]] (by simp [ev, f0, f1]) ?_
        refine (eqCrl_raw t1 n1 n1 t2 n2 n2 t3 n3 n3 s1 n1 s2 n2 s3 n3 x W (HKT.out W hI.bel) o1_0.crs HZX.out.2.2.2.2).mono ?_
        rintro e W2 ⟨rfl, hb⟩
        exact ⟨_, rfl, hKQ.out _ _ (hI.put 3 57 rfl rfl (by rw [hz]; decide) rfl hUN rfl HBB (md14_stb a1 n1 c1 a2 n2 c2 a3 n3 c3 x b1 m1 d1 b2 m2 d2 b3 m3 d3 y t1 t2 t3 w4.heap.size w.heap.size (w10.heap.size)) hb rfl)⟩
      · intro lQ b W hI hUN hED KQ hKQ
        have f := hI.got 3 (of_decide_eq_true rfl) (edge hED 3 (by kernel_rfl)) rfl
        replace f : aT b 57 = .bool true := f
        have f2 : b.tmps[57]?.getD undef = .bool true := by simpa [aT] using f
        exact opw_value (.bool false) (by simp [execOp, Act.eval, f2, go_sem]) (hKQ.out _ _ (hI.put 4 58 rfl rfl (by rw [hz]; decide) rfl hUN rfl HBB (md14_stb a1 n1 c1 a2 n2 c2 a3 n3 c3 x b1 m1 d1 b2 m2 d2 b3 m3 d3 y t1 t2 t3 w4.heap.size w.heap.size (w10.heap.size)) (Below.refl _ _) rfl))
    · intro b W hf hb F
      have eb := F 4 (of_decide_eq_true rfl) rfl
      replace eb : aT b 58 = _ := eb
      rw [hf.eq]
      simp only [puts, Act.put, List.setIfInBounds_toArray, List.set_cons_zero, List.set_cons_succ, eb]
      clear hf F
      clear eb
      generalize aT b = AT
      clear b
      obtain ⟨w11, hW⟩ : ∃ w11, w11 = W := ⟨_, rfl⟩
      subst hW
      have F11 : Hid (_) := F10.out.on hb
      have KX11 : Hid (_) := KX10.out.kept hb
      have OX11 : Hid (_) := OX10.out.below hb
      have KY11 : Hid (_) := KY10.out.kept hb
      have OY11 : Hid (_) := OY10.out.below hb
      have AW11 : Hid (_) := AW10.out.kept hb
      have OG11 : Hid (_) := OG10.out.below hb
      clear F10 KX10 OX10 KY10 OY10 AW10 OG10
      clear hb HCB HKT HBB
      have HCB : Hid (∀ W, Below w11.heap.size w11 W → Below w.heap.size w W) := fun W hW => HB3.out.trans ((F11.out.below.trans (hW.mono F11.out.below.size)).mono HB3.out.size)
      have HBB : w11.heap.size ≤ w11.heap.size := Nat.le_refl _
      have HKT : Hid (∀ W, Below w11.heap.size w11 W → Crs W r1 m1 r2 m2 r3 m3 y) := fun W hW => (KY11.out.kept hW).crs
      go_upto_region 16 with fail
      refine wp_region_ri (md16 a1 n1 c1 a2 n2 c2 a3 n3 c3 x b1 m1 d1 b2 m2 d2 b3 m3 d3 y r1 r2 r3 w6.heap.size w.heap.size (w11.heap.size)) [59, 60, 61, 62, 63] (w11.heap.size) (fun a0 => a0.tmps.size = 119 ∧ aT a0 3 = .pointer (some ⟨(w.heap.size + 1), 0, none⟩) ∧ aT a0 9 = .pointer (some ⟨w6.heap.size, 0, none⟩)) (by kernel_rfl) rfl (by kernel_rfl) rfl ⟨rfl, rfl, rfl⟩ (md16_stb a1 n1 c1 a2 n2 c2 a3 n3 c3 x b1 m1 d1 b2 m2 d2 b3 m3 d3 y r1 r2 r3 w6.heap.size w.heap.size (w11.heap.size)) ?_ ?_ ?_
      · intro k hk hk2
        match k, hk, hk2 with
        | 5, _, _ => exact (F11.out.all (w6.heap.size, #[.slice r1 m1 m1, .int .i64 y.num, .int .i64 y.base, .int .i64 y.tm, .int .i64 y.next, .int .i64 y.scope, .bool y.ind, .slice r2 m2 m2, .slice r3 m3 m3], 36) (by simp))
        | 6, _, _ => exact (F11.out.all (w.heap.size + 1, #[.slice b1 m1 d1, .int .i64 y.num, .int .i64 y.base, .int .i64 y.tm, .int .i64 y.next, .int .i64 y.scope, .bool y.ind, .slice b2 m2 d2, .slice b3 m3 d3], 28) (by simp))
        | 0, hk, _ => exact absurd hk (by show ¬ (5 ≤ 0); omega)
        | 1, hk, _ => exact absurd hk (by show ¬ (5 ≤ 1); omega)
        | 2, hk, _ => exact absurd hk (by show ¬ (5 ≤ 2); omega)
        | 3, hk, _ => exact absurd hk (by show ¬ (5 ≤ 3); omega)
        | 4, hk, _ => exact absurd hk (by show ¬ (5 ≤ 4); omega)
        | k + 7, _, hk2 => exact absurd hk2 (by show ¬ (k + 7 < 7); omega)
      · rintro a0 ⟨hz, g3, g9⟩
        refine StepsRI.cons ?_ (StepsRI.cons ?_ (StepsRI.cons ?_ (StepsRI.cons ?_ (StepsRI.cons ?_ (StepsRI.nil)))))
        · intro lQ b W hI hUN hED KQ hKQ
          have hg := (hI.vot 5 (of_decide_eq_true rfl) (of_decide_eq_true rfl) rfl)
          refine wp_load_row 36 _ rfl (w6.heap.size) ((hI.fr.same 9 (by decide)).trans g9) 36 #[.slice r1 m1 m1, .int .i64 y.num, .int .i64 y.base, .int .i64 y.tm, .int .i64 y.next, .int .i64 y.scope, .bool y.ind, .slice r2 m2 m2, .slice r3 m3 m3] (0, 0) _ hg Tryd.underlying36 rfl (by kernel_rfl) ?_
          exact hKQ.out _ _ (hI.put 0 59 rfl rfl (by rw [hz]; decide) rfl hUN rfl HBB (md16_stb a1 n1 c1 a2 n2 c2 a3 n3 c3 x b1 m1 d1 b2 m2 d2 b3 m3 d3 y r1 r2 r3 w6.heap.size w.heap.size (w11.heap.size)) (Below.refl _ _) rfl)
        · intro lQ b W hI hUN hED KQ hKQ
          have hg := (hI.vot 6 (of_decide_eq_true rfl) (of_decide_eq_true rfl) rfl)
          refine wp_load_row 28 _ rfl ((w.heap.size + 1)) ((hI.fr.same 3 (by decide)).trans g3) 28 #[.slice b1 m1 d1, .int .i64 y.num, .int .i64 y.base, .int .i64 y.tm, .int .i64 y.next, .int .i64 y.scope, .bool y.ind, .slice b2 m2 d2, .slice b3 m3 d3] (0, 0) _ hg Tryd.underlying28 rfl (by kernel_rfl) ?_
          exact hKQ.out _ _ (hI.put 1 60 rfl rfl (by rw [hz]; decide) rfl hUN rfl HBB (md16_stb a1 n1 c1 a2 n2 c2 a3 n3 c3 x b1 m1 d1 b2 m2 d2 b3 m3 d3 y r1 r2 r3 w6.heap.size w.heap.size (w11.heap.size)) (Below.refl _ _) rfl)
        · intro lQ b W hI hUN hED KQ hKQ
          have f0 := hI.got 1 (of_decide_eq_true rfl) (edge hED 1 (by kernel_rfl)) rfl
          replace f0 : aT b 60 = .agg #[.slice b1 m1 d1, .int .i64 y.num, .int .i64 y.base, .int .i64 y.tm, .int .i64 y.next, .int .i64 y.scope, .bool y.ind, .slice b2 m2 d2, .slice b3 m3 d3] := f0
          refine opw_call 9 #[.tmp 60] _ _ _ rfl Tryd.func9 (by kernel_rfl) rfl #[.agg #[.slice b1 m1 d1, .int .i64 y.num, .int .i64 y.base, .int .i64 y.tm, .int .i64 y.next, .int .i64 y.scope, .bool y.ind, .slice b2 m2 d2, .slice b3 m3 d3]] (by simp [ev, f0]) ?_
          refine (HTY.out W (HCB.out W hI.bel)).mono ?_
          rintro e W2 ⟨s1, s2, s3, rfl, hk, _, hb⟩
          exact ⟨_, rfl, hKQ.out _ _ (hI.put 2 61 rfl rfl (by rw [hz]; decide) rfl hUN rfl HBB (md16_stb a1 n1 c1 a2 n2 c2 a3 n3 c3 x b1 m1 d1 b2 m2 d2 b3 m3 d3 y r1 r2 r3 w6.heap.size w.heap.size (w11.heap.size)) hb ⟨s1, s2, s3, rfl, hk⟩)⟩
        · intro lQ b W hI hUN hED KQ hKQ
          have f0 := hI.got 0 (of_decide_eq_true rfl) (edge hED 0 (by kernel_rfl)) rfl
          replace f0 : aT b 59 = .agg #[.slice r1 m1 m1, .int .i64 y.num, .int .i64 y.base, .int .i64 y.tm, .int .i64 y.next, .int .i64 y.scope, .bool y.ind, .slice r2 m2 m2, .slice r3 m3 m3] := f0
          have f1 := hI.got 2 (of_decide_eq_true rfl) (edge hED 2 (by kernel_rfl)) rfl
          obtain ⟨s1, s2, s3, f1, o1_0⟩ := f1
          replace f1 : aT b 61 = .agg #[.slice s1 m1 m1, .int .i64 y.num, .int .i64 y.base, .int .i64 y.tm, .int .i64 y.next, .int .i64 y.scope, .bool y.ind, .slice s2 m2 m2, .slice s3 m3 m3] := f1
          refine opw_call 11 #[.tmp 59, .tmp 61] _ _ _ rfl Tryd.func11 (by kernel_rfl) rfl #[.agg #[.slice r1 m1 m1, .int .i64 y.num, .int .i64 y.base, .int .i64 y.tm, .int .i64 y.next, .int .i64 y.scope, .bool y.ind, .slice r2 m2 m2, .slice r3 m3 m3], .agg #[.slice s1 m1 m1, .int .i64 y.num, .int .i64 y.base, .int .i64 y.tm, .int .i64 y.next, .int .i64 y.scope, .bool y.ind, .slice s2 m2 m2, .slice s3 m3 m3]] (by simp [ev, f0, f1]) ?_
          refine (eqCrl_raw r1 m1 m1 r2 m2 m2 r3 m3 m3 s1 m1 s2 m2 s3 m3 y W (HKT.out W hI.bel) o1_0.crs HZY.out.2.2.2.2).mono ?_
          rintro e W2 ⟨rfl, hb⟩
          exact ⟨_, rfl, hKQ.out _ _ (hI.put 3 62 rfl rfl (by rw [hz]; decide) rfl hUN rfl HBB (md16_stb a1 n1 c1 a2 n2 c2 a3 n3 c3 x b1 m1 d1 b2 m2 d2 b3 m3 d3 y r1 r2 r3 w6.heap.size w.heap.size (w11.heap.size)) hb rfl)⟩
        · intro lQ b W hI hUN hED KQ hKQ
          have f := hI.got 3 (of_decide_eq_true rfl) (edge hED 3 (by kernel_rfl)) rfl
          replace f : aT b 62 = .bool true := f
          have f2 : b.tmps[62]?.getD undef = .bool true := by simpa [aT] using f
          exact opw_value (.bool false) (by simp [execOp, Act.eval, f2, go_sem]) (hKQ.out _ _ (hI.put 4 63 rfl rfl (by rw [hz]; decide) rfl hUN rfl HBB (md16_stb a1 n1 c1 a2 n2 c2 a3 n3 c3 x b1 m1 d1 b2 m2 d2 b3 m3 d3 y r1 r2 r3 w6.heap.size w.heap.size (w11.heap.size)) (Below.refl _ _) rfl))
      · intro b W hf hb F
        have eb := F 4 (of_decide_eq_true rfl) rfl
        replace eb : aT b 63 = _ := eb
        rw [hf.eq]
        simp only [puts, Act.put, List.setIfInBounds_toArray, List.set_cons_zero, List.set_cons_succ, eb]
        clear hf F
        clear eb
        generalize aT b = AT
        clear b
        obtain ⟨w12, hW⟩ : ∃ w12, w12 = W := ⟨_, rfl⟩
        subst hW
        have F12 : Hid (_) := F11.out.on hb
        have KX12 : Hid (_) := KX11.out.kept hb
        have OX12 : Hid (_) := OX11.out.below hb
        have KY12 : Hid (_) := KY11.out.kept hb
        have OY12 : Hid (_) := OY11.out.below hb
        have AW12 : Hid (_) := AW11.out.kept hb
        have OG12 : Hid (_) := OG11.out.below hb
        clear F11 KX11 OX11 KY11 OY11 AW11 OG11
        clear hb HCB HKT HBB
        go_wp2_with (refine wpList_load_row rfl 36 _ rfl (w4.heap.size) rfl 36 #[.slice t1 n1 n1, .int .i64 x.num, .int .i64 x.base, .int .i64 x.tm, .int .i64 x.next, .int .i64 x.scope, .bool x.ind, .slice t2 n2 n2, .slice t3 n3 n3] (0, 0) _ (F12.out.all (w4.heap.size, #[.slice t1 n1 n1, .int .i64 x.num, .int .i64 x.base, .int .i64 x.tm, .int .i64 x.next, .int .i64 x.scope, .bool x.ind, .slice t2 n2 n2, .slice t3 n3 n3], 36) (by simp)) Tryd.underlying36 rfl (by kernel_rfl) ?_)
        refine (markCrl_raw w3.heap.size (fun i => w3.heap.size ≤ i ∧ i < w4.heap.size) t1 n1 n1 t2 n2 n2 t3 n3 n3 x vx slx pvx vsx x.sig 1 _ OX12.out HIX.out HZX.out HLX.out (by decide) (by decide)).mono ?_
        rintro e w13 ⟨rfl, _, ht, hkb⟩
        have F13 : Hid (_) := F12.out.mark ht (fun i hi => by have := hi.1; omega) (by simp; omega)
        have OY13 : Hid (_) := OY12.out.low ht (fun i hi => by have := hi.2; omega)
        have AW13 : Hid (_) := AW12.out.low ht (fun i hi => by have := hi.2; omega)
        have OG13 : Hid (_) := OG12.out.low ht (fun i hi => by have := hi.2; omega)
        have hs13 := ht.size
        clear ht F12 KX12 OX12 KY12 OY12 AW12 OG12
        obtain ⟨kx, hkx⟩ : ∃ kx : Nat, kx = nxQ slx (1 + 2 * n1) n2 + n3 := ⟨_, rfl⟩
        rw [← hkx] at hkb ⊢
        have hkx1 : kx ≤ 100000000000000 := by omega
        have hkx0 : 0 < kx := by have := nxQ_le slx (1 + 2 * n1) (Nat.zero_le n2); simp only [nxQ] at this; omega
        clear hkx
        go_wp2_with (refine wpList_load_row rfl 36 _ rfl (w6.heap.size) rfl 36 #[.slice r1 m1 m1, .int .i64 y.num, .int .i64 y.base, .int .i64 y.tm, .int .i64 y.next, .int .i64 y.scope, .bool y.ind, .slice r2 m2 m2, .slice r3 m3 m3] (0, 0) _ (F13.out.all (w6.heap.size, #[.slice r1 m1 m1, .int .i64 y.num, .int .i64 y.base, .int .i64 y.tm, .int .i64 y.next, .int .i64 y.scope, .bool y.ind, .slice r2 m2 m2, .slice r3 m3 m3], 36) (by simp)) Tryd.underlying36 rfl (by kernel_rfl) ?_)
        refine (markCrl_raw w5.heap.size (fun i => w5.heap.size ≤ i ∧ i < w6.heap.size) r1 m1 m1 r2 m2 m2 r3 m3 m3 y vy sly pvy vsy y.sig kx _ OY13.out HIY.out HZY.out HLY.out hkx0 hkx1).mono ?_
        rintro e w14 ⟨rfl, _, ht, hkb2⟩
        have F14 : Hid (_) := F13.out.mark ht (fun i hi => by have := hi.1; omega) (by simp; omega)
        have AW14 : Hid (_) := AW13.out.low ht (fun i hi => by have := hi.2; omega)
        have OG14 : Hid (_) := OG13.out.low ht (fun i hi => by have := hi.2; omega)
        have hs14 := ht.size
        clear ht F13 OY13 AW13 OG13
        obtain ⟨ky, hky⟩ : ∃ ky : Int, ky = ((nxQ sly (kx + 2 * m1) m2 + m3 : Nat) : Int) := ⟨_, rfl⟩
        have hkyn : ¬ (ky < 0) := by omega
        rw [← hky]
        have hkyd : decide (ky < 0) = false := by simp; omega
        clear hky hkb hkb2 hkx0 hkx1
        have p_0 : w14.cell? ⟨w8.heap.size, 0, none⟩ = some (.slice g1 m h1) := (cell_of_row _ _ 0 _ 36 (0, 0) (F14.out.all (w8.heap.size, #[.slice g1 m h1, .int .i64 z.num, .int .i64 z.base, .int .i64 z.tm, .int .i64 z.next, .int .i64 z.scope, .bool z.ind, .slice g2 n h2, .slice g3 0 h3], 36) (by simp))).trans rfl
        have p_1 : w14.cell? ⟨w8.heap.size, 1, none⟩ = some (.int .i64 z.num) := (cell_of_row _ _ 1 _ 36 (0, 0) (F14.out.all (w8.heap.size, #[.slice g1 m h1, .int .i64 z.num, .int .i64 z.base, .int .i64 z.tm, .int .i64 z.next, .int .i64 z.scope, .bool z.ind, .slice g2 n h2, .slice g3 0 h3], 36) (by simp))).trans rfl
        have p_2 : w14.cell? ⟨w8.heap.size, 2, none⟩ = some (.int .i64 z.base) := (cell_of_row _ _ 2 _ 36 (0, 0) (F14.out.all (w8.heap.size, #[.slice g1 m h1, .int .i64 z.num, .int .i64 z.base, .int .i64 z.tm, .int .i64 z.next, .int .i64 z.scope, .bool z.ind, .slice g2 n h2, .slice g3 0 h3], 36) (by simp))).trans rfl
        have p_3 : w14.cell? ⟨w8.heap.size, 3, none⟩ = some (.int .i64 z.tm) := (cell_of_row _ _ 3 _ 36 (0, 0) (F14.out.all (w8.heap.size, #[.slice g1 m h1, .int .i64 z.num, .int .i64 z.base, .int .i64 z.tm, .int .i64 z.next, .int .i64 z.scope, .bool z.ind, .slice g2 n h2, .slice g3 0 h3], 36) (by simp))).trans rfl
        have p_4 : w14.cell? ⟨w8.heap.size, 4, none⟩ = some (.int .i64 z.next) := (cell_of_row _ _ 4 _ 36 (0, 0) (F14.out.all (w8.heap.size, #[.slice g1 m h1, .int .i64 z.num, .int .i64 z.base, .int .i64 z.tm, .int .i64 z.next, .int .i64 z.scope, .bool z.ind, .slice g2 n h2, .slice g3 0 h3], 36) (by simp))).trans rfl
        have p_5 : w14.cell? ⟨w8.heap.size, 5, none⟩ = some (.int .i64 z.scope) := (cell_of_row _ _ 5 _ 36 (0, 0) (F14.out.all (w8.heap.size, #[.slice g1 m h1, .int .i64 z.num, .int .i64 z.base, .int .i64 z.tm, .int .i64 z.next, .int .i64 z.scope, .bool z.ind, .slice g2 n h2, .slice g3 0 h3], 36) (by simp))).trans rfl
        have p_6 : w14.cell? ⟨w8.heap.size, 6, none⟩ = some (.bool z.ind) := (cell_of_row _ _ 6 _ 36 (0, 0) (F14.out.all (w8.heap.size, #[.slice g1 m h1, .int .i64 z.num, .int .i64 z.base, .int .i64 z.tm, .int .i64 z.next, .int .i64 z.scope, .bool z.ind, .slice g2 n h2, .slice g3 0 h3], 36) (by simp))).trans rfl
        have p_7 : w14.cell? ⟨w8.heap.size, 7, none⟩ = some (.slice g2 n h2) := (cell_of_row _ _ 7 _ 36 (0, 0) (F14.out.all (w8.heap.size, #[.slice g1 m h1, .int .i64 z.num, .int .i64 z.base, .int .i64 z.tm, .int .i64 z.next, .int .i64 z.scope, .bool z.ind, .slice g2 n h2, .slice g3 0 h3], 36) (by simp))).trans rfl
        have p_8 : w14.cell? ⟨w8.heap.size, 8, none⟩ = some (.slice g3 0 h3) := (cell_of_row _ _ 8 _ 36 (0, 0) (F14.out.all (w8.heap.size, #[.slice g1 m h1, .int .i64 z.num, .int .i64 z.base, .int .i64 z.tm, .int .i64 z.next, .int .i64 z.scope, .bool z.ind, .slice g2 n h2, .slice g3 0 h3], 36) (by simp))).trans rfl
        have q_0 : w14.cell? ⟨gs, 0, none⟩ = some (.slice p1 m f1) := (cell_of_row _ _ 0 _ 36 (0, 0) (F14.out.all (gs, #[.slice p1 m f1, .int .i64 z.num, .int .i64 z.base, .int .i64 z.tm, .int .i64 z.next, .int .i64 z.scope, .bool z.ind, .slice p2 n f2, .slice p3 0 f3], 36) (by simp))).trans rfl
        have q_1 : w14.cell? ⟨gs, 1, none⟩ = some (.int .i64 z.num) := (cell_of_row _ _ 1 _ 36 (0, 0) (F14.out.all (gs, #[.slice p1 m f1, .int .i64 z.num, .int .i64 z.base, .int .i64 z.tm, .int .i64 z.next, .int .i64 z.scope, .bool z.ind, .slice p2 n f2, .slice p3 0 f3], 36) (by simp))).trans rfl
        have q_2 : w14.cell? ⟨gs, 2, none⟩ = some (.int .i64 z.base) := (cell_of_row _ _ 2 _ 36 (0, 0) (F14.out.all (gs, #[.slice p1 m f1, .int .i64 z.num, .int .i64 z.base, .int .i64 z.tm, .int .i64 z.next, .int .i64 z.scope, .bool z.ind, .slice p2 n f2, .slice p3 0 f3], 36) (by simp))).trans rfl
        have q_3 : w14.cell? ⟨gs, 3, none⟩ = some (.int .i64 z.tm) := (cell_of_row _ _ 3 _ 36 (0, 0) (F14.out.all (gs, #[.slice p1 m f1, .int .i64 z.num, .int .i64 z.base, .int .i64 z.tm, .int .i64 z.next, .int .i64 z.scope, .bool z.ind, .slice p2 n f2, .slice p3 0 f3], 36) (by simp))).trans rfl
        have q_4 : w14.cell? ⟨gs, 4, none⟩ = some (.int .i64 z.next) := (cell_of_row _ _ 4 _ 36 (0, 0) (F14.out.all (gs, #[.slice p1 m f1, .int .i64 z.num, .int .i64 z.base, .int .i64 z.tm, .int .i64 z.next, .int .i64 z.scope, .bool z.ind, .slice p2 n f2, .slice p3 0 f3], 36) (by simp))).trans rfl
        have q_5 : w14.cell? ⟨gs, 5, none⟩ = some (.int .i64 z.scope) := (cell_of_row _ _ 5 _ 36 (0, 0) (F14.out.all (gs, #[.slice p1 m f1, .int .i64 z.num, .int .i64 z.base, .int .i64 z.tm, .int .i64 z.next, .int .i64 z.scope, .bool z.ind, .slice p2 n f2, .slice p3 0 f3], 36) (by simp))).trans rfl
        have q_6 : w14.cell? ⟨gs, 6, none⟩ = some (.bool z.ind) := (cell_of_row _ _ 6 _ 36 (0, 0) (F14.out.all (gs, #[.slice p1 m f1, .int .i64 z.num, .int .i64 z.base, .int .i64 z.tm, .int .i64 z.next, .int .i64 z.scope, .bool z.ind, .slice p2 n f2, .slice p3 0 f3], 36) (by simp))).trans rfl
        have q_7 : w14.cell? ⟨gs, 7, none⟩ = some (.slice p2 n f2) := (cell_of_row _ _ 7 _ 36 (0, 0) (F14.out.all (gs, #[.slice p1 m f1, .int .i64 z.num, .int .i64 z.base, .int .i64 z.tm, .int .i64 z.next, .int .i64 z.scope, .bool z.ind, .slice p2 n f2, .slice p3 0 f3], 36) (by simp))).trans rfl
        have q_8 : w14.cell? ⟨gs, 8, none⟩ = some (.slice p3 0 f3) := (cell_of_row _ _ 8 _ 36 (0, 0) (F14.out.all (gs, #[.slice p1 m f1, .int .i64 z.num, .int .i64 z.base, .int .i64 z.tm, .int .i64 z.next, .int .i64 z.scope, .bool z.ind, .slice p2 n f2, .slice p3 0 f3], 36) (by simp))).trans rfl
        go_wp2_with fail
        refine (eqCrl_raw g1 m h1 g2 n h2 g3 0 h3 p1 f1 p2 f2 p3 f3 z _ (AW14.out.crs HOZ.out) ((HS3.out.kept F14.out.below).crs HOZ.out) (by omega)).mono ?_
        rintro e w15 ⟨rfl, hb⟩
        have F15 : Hid (_) := F14.out.on hb
        have AW15 : Hid (_) := AW14.out.kept hb
        have OG15 : Hid (_) := OG14.out.below hb
        clear F14 AW14 OG14
        have hs15 := hb.size
        clear hb hkyn hkyd p_0 q_0 p_1 q_1 p_2 q_2 p_3 q_3 p_4 q_4 p_5 q_5 p_6 q_6 p_7 q_7 p_8 q_8
        go_wp2_with (refine wpList_load_row rfl 36 _ rfl (w8.heap.size) rfl 36 #[.slice g1 m h1, .int .i64 z.num, .int .i64 z.base, .int .i64 z.tm, .int .i64 z.next, .int .i64 z.scope, .bool z.ind, .slice g2 n h2, .slice g3 0 h3] (0, 0) _ (F15.out.all (w8.heap.size, #[.slice g1 m h1, .int .i64 z.num, .int .i64 z.base, .int .i64 z.tm, .int .i64 z.next, .int .i64 z.scope, .bool z.ind, .slice g2 n h2, .slice g3 0 h3], 36) (by simp)) Tryd.underlying36 rfl (by kernel_rfl) ?_)
        refine (markCrl_raw w7.heap.size (fun i => w7.heap.size ≤ i ∧ i < w8.heap.size) g1 m h1 g2 n h2 g3 0 h3 z vg slg pvg vsg [] 1 _ OG15.out HIG.out HOZ.out HLG.out (by decide) (by decide)).mono ?_
        rintro e w16 ⟨rfl, ho, ht, hkb⟩
        have F16 : Hid (_) := F15.out.mark ht (fun i hi => by have := hi.1; omega) (by simp; omega)
        have GM16 : Hid (_) := ho
        clear ho ht F15 AW15 OG15
        obtain ⟨kk, hkk⟩ : ∃ kk : Int, kk = (((nxQ slg (1 + 2 * m) n + 0 : Nat) : Int)) := ⟨_, rfl⟩
        have HKK : Hid ((((nxQ slg (1 + 2 * m) n + 0 : Nat) : Int)) = kk) := hkk.symm
        have hk0 : ¬ (kk < 0) := by omega
        rw [HKK.out]
        clear hkk hkb
        have tk : (kk != kk) = false := by simp
        go_wp2_with (refine wpList_load_row rfl 36 _ rfl (w8.heap.size) rfl 36 #[.slice g1 m h1, .int .i64 z.num, .int .i64 z.base, .int .i64 z.tm, .int .i64 z.next, .int .i64 z.scope, .bool z.ind, .slice g2 n h2, .slice g3 0 h3] (0, 0) _ (F16.out.all (w8.heap.size, #[.slice g1 m h1, .int .i64 z.num, .int .i64 z.base, .int .i64 z.tm, .int .i64 z.next, .int .i64 z.scope, .bool z.ind, .slice g2 n h2, .slice g3 0 h3], 36) (by simp)) Tryd.underlying36 rfl (by kernel_rfl) ?_)
        refine (heldCrl_raw w7.heap.size g1 m h1 g2 n h2 g3 0 h3 z slg pvg vsg 1 _ GM16.out HOZ.out HLG.out (by decide) (by decide)).mono ?_
        rintro e w17 ⟨rfl, hb⟩
        have F17 : Hid (_) := F16.out.on hb
        have GM17 : Hid (_) := GM16.out.below hb
        clear F16 GM16
        clear hb
        rw [HKK.out]
        have HCB : Hid (∀ W, Below w17.heap.size w17 W → Below w.heap.size w W) := fun W hW => HB3.out.trans ((F17.out.below.trans (hW.mono F17.out.below.size)).mono HB3.out.size)
        have HBB : w17.heap.size ≤ w17.heap.size := Nat.le_refl _
        go_upto_region 31 with fail
        refine wp_region_ri (md31 a1 n1 c1 a2 n2 c2 a3 n3 c3 x b1 m1 d1 b2 m2 d2 b3 m3 d3 y z m n cd w.heap.size (w17.heap.size)) [15, 16, 94, 95, 96, 97, 98, 99, 100, 101] (w17.heap.size) (fun a0 => a0.tmps.size = 119 ∧ aT a0 2 = .pointer (some ⟨w.heap.size, 0, none⟩) ∧ aT a0 3 = .pointer (some ⟨(w.heap.size + 1), 0, none⟩)) (by kernel_rfl) rfl (by kernel_rfl) rfl ⟨rfl, rfl, rfl⟩ (md31_stb a1 n1 c1 a2 n2 c2 a3 n3 c3 x b1 m1 d1 b2 m2 d2 b3 m3 d3 y z m n cd w.heap.size (w17.heap.size)) ?_ ?_ ?_
        · intro k hk hk2
          match k, hk, hk2 with
          | 11, _, _ => exact (F17.out.all (w.heap.size, #[.slice a1 n1 c1, .int .i64 x.num, .int .i64 x.base, .int .i64 x.tm, .int .i64 x.next, .int .i64 x.scope, .bool x.ind, .slice a2 n2 c2, .slice a3 n3 c3], 28) (by simp))
          | 12, _, _ => exact (F17.out.all (w.heap.size + 1, #[.slice b1 m1 d1, .int .i64 y.num, .int .i64 y.base, .int .i64 y.tm, .int .i64 y.next, .int .i64 y.scope, .bool y.ind, .slice b2 m2 d2, .slice b3 m3 d3], 28) (by simp))
          | 0, hk, _ => exact absurd hk (by show ¬ (11 ≤ 0); omega)
          | 1, hk, _ => exact absurd hk (by show ¬ (11 ≤ 1); omega)
          | 2, hk, _ => exact absurd hk (by show ¬ (11 ≤ 2); omega)
          | 3, hk, _ => exact absurd hk (by show ¬ (11 ≤ 3); omega)
          | 4, hk, _ => exact absurd hk (by show ¬ (11 ≤ 4); omega)
          | 5, hk, _ => exact absurd hk (by show ¬ (11 ≤ 5); omega)
          | 6, hk, _ => exact absurd hk (by show ¬ (11 ≤ 6); omega)
          | 7, hk, _ => exact absurd hk (by show ¬ (11 ≤ 7); omega)
          | 8, hk, _ => exact absurd hk (by show ¬ (11 ≤ 8); omega)
          | 9, hk, _ => exact absurd hk (by show ¬ (11 ≤ 9); omega)
          | 10, hk, _ => exact absurd hk (by show ¬ (11 ≤ 10); omega)
          | k + 13, _, hk2 => exact absurd hk2 (by show ¬ (k + 13 < 13); omega)
        · rintro a0 ⟨hz, g2, g3⟩
          refine StepsRI.cons ?_ (StepsRI.cons ?_ (StepsRI.cons ?_ (StepsRI.cons ?_ (StepsRI.cons ?_ (StepsRI.cons ?_ (StepsRI.cons ?_ (StepsRI.cons ?_ (StepsRI.cons ?_ (StepsRI.cons ?_ (StepsRI.cons ?_ (StepsRI.nil)))))))))))
          · intro lQ b W hI hUN hED KQ hKQ
            have hg := (hI.vot 11 (of_decide_eq_true rfl) (of_decide_eq_true rfl) rfl)
            refine wp_load_row 28 _ rfl (w.heap.size) ((hI.fr.same 2 (by decide)).trans g2) 28 #[.slice a1 n1 c1, .int .i64 x.num, .int .i64 x.base, .int .i64 x.tm, .int .i64 x.next, .int .i64 x.scope, .bool x.ind, .slice a2 n2 c2, .slice a3 n3 c3] (0, 0) _ hg Tryd.underlying28 rfl (by kernel_rfl) ?_
            exact hKQ.out _ _ (hI.put 0 95 rfl rfl (by rw [hz]; decide) rfl hUN rfl HBB (md31_stb a1 n1 c1 a2 n2 c2 a3 n3 c3 x b1 m1 d1 b2 m2 d2 b3 m3 d3 y z m n cd w.heap.size (w17.heap.size)) (Below.refl _ _) rfl)
          · intro lQ b W hI hUN hED KQ hKQ
            have f0 := hI.got 0 (of_decide_eq_true rfl) (edge hED 0 (by kernel_rfl)) rfl
            replace f0 : aT b 95 = .agg #[.slice a1 n1 c1, .int .i64 x.num, .int .i64 x.base, .int .i64 x.tm, .int .i64 x.next, .int .i64 x.scope, .bool x.ind, .slice a2 n2 c2, .slice a3 n3 c3] := f0
            refine opw_call 9 #[.tmp 95] _ _ _ rfl Tryd.func9 (by kernel_rfl) rfl #[.agg #[.slice a1 n1 c1, .int .i64 x.num, .int .i64 x.base, .int .i64 x.tm, .int .i64 x.next, .int .i64 x.scope, .bool x.ind, .slice a2 n2 c2, .slice a3 n3 c3]] (by simp [ev, f0]) ?_
            refine (HTX.out W (HCB.out W hI.bel)).mono ?_
            rintro e W2 ⟨u1, u2, u3, rfl, hk, _, hb⟩
            exact ⟨_, rfl, hKQ.out _ _ (hI.put 1 96 rfl rfl (by rw [hz]; decide) rfl hUN rfl HBB (md31_stb a1 n1 c1 a2 n2 c2 a3 n3 c3 x b1 m1 d1 b2 m2 d2 b3 m3 d3 y z m n cd w.heap.size (w17.heap.size)) hb ⟨u1, u2, u3, rfl, hk⟩)⟩
          · intro lQ b W hI hUN hED KQ hKQ
            have hg := (hI.vot 12 (of_decide_eq_true rfl) (of_decide_eq_true rfl) rfl)
            refine wp_load_row 28 _ rfl ((w.heap.size + 1)) ((hI.fr.same 3 (by decide)).trans g3) 28 #[.slice b1 m1 d1, .int .i64 y.num, .int .i64 y.base, .int .i64 y.tm, .int .i64 y.next, .int .i64 y.scope, .bool y.ind, .slice b2 m2 d2, .slice b3 m3 d3] (0, 0) _ hg Tryd.underlying28 rfl (by kernel_rfl) ?_
            exact hKQ.out _ _ (hI.put 2 97 rfl rfl (by rw [hz]; decide) rfl hUN rfl HBB (md31_stb a1 n1 c1 a2 n2 c2 a3 n3 c3 x b1 m1 d1 b2 m2 d2 b3 m3 d3 y z m n cd w.heap.size (w17.heap.size)) (Below.refl _ _) rfl)
          · intro lQ b W hI hUN hED KQ hKQ
            have f0 := hI.got 2 (of_decide_eq_true rfl) (edge hED 2 (by kernel_rfl)) rfl
            replace f0 : aT b 97 = .agg #[.slice b1 m1 d1, .int .i64 y.num, .int .i64 y.base, .int .i64 y.tm, .int .i64 y.next, .int .i64 y.scope, .bool y.ind, .slice b2 m2 d2, .slice b3 m3 d3] := f0
            refine opw_call 9 #[.tmp 97] _ _ _ rfl Tryd.func9 (by kernel_rfl) rfl #[.agg #[.slice b1 m1 d1, .int .i64 y.num, .int .i64 y.base, .int .i64 y.tm, .int .i64 y.next, .int .i64 y.scope, .bool y.ind, .slice b2 m2 d2, .slice b3 m3 d3]] (by simp [ev, f0]) ?_
            refine (HTY.out W (HCB.out W hI.bel)).mono ?_
            rintro e W2 ⟨v1, v2, v3, rfl, hk, _, hb⟩
            exact ⟨_, rfl, hKQ.out _ _ (hI.put 3 98 rfl rfl (by rw [hz]; decide) rfl hUN rfl HBB (md31_stb a1 n1 c1 a2 n2 c2 a3 n3 c3 x b1 m1 d1 b2 m2 d2 b3 m3 d3 y z m n cd w.heap.size (w17.heap.size)) hb ⟨v1, v2, v3, rfl, hk⟩)⟩
          · intro lQ b W hI hUN hED KQ hKQ
            have f0 := hI.got1 1 4 (of_decide_eq_true rfl) (edge hED 1 (by kernel_rfl)) hUN rfl
            obtain ⟨u1, u2, u3, f0, o0_0⟩ := f0
            replace f0 : aT b 96 = .agg #[.slice u1 n1 n1, .int .i64 x.num, .int .i64 x.base, .int .i64 x.tm, .int .i64 x.next, .int .i64 x.scope, .bool x.ind, .slice u2 n2 n2, .slice u3 n3 n3] := f0
            have f1 := hI.got1 3 4 (of_decide_eq_true rfl) (edge hED 3 (by kernel_rfl)) hUN rfl
            obtain ⟨v1, v2, v3, f1, o1_0⟩ := f1
            replace f1 : aT b 98 = .agg #[.slice v1 m1 m1, .int .i64 y.num, .int .i64 y.base, .int .i64 y.tm, .int .i64 y.next, .int .i64 y.scope, .bool y.ind, .slice v2 m2 m2, .slice v3 m3 m3] := f1
            refine opw_call 17 #[.tmp 96, .tmp 98] _ _ _ rfl Tryd.func17 (by kernel_rfl) rfl #[.agg #[.slice u1 n1 n1, .int .i64 x.num, .int .i64 x.base, .int .i64 x.tm, .int .i64 x.next, .int .i64 x.scope, .bool x.ind, .slice u2 n2 n2, .slice u3 n3 n3], .agg #[.slice v1 m1 m1, .int .i64 y.num, .int .i64 y.base, .int .i64 y.tm, .int .i64 y.next, .int .i64 y.scope, .bool y.ind, .slice v2 m2 m2, .slice v3 m3 m3]] (by simp [ev, f0, f1]) ?_
            refine (HIS.out W u1 u2 u3 v1 v2 v3 (HCB.out W hI.bel) o0_0 o1_0).mono ?_
            rintro e W2 ⟨p1, f1, p2, f2, p3, f3, rfl, hk, hb⟩
            exact ⟨_, rfl, hKQ.out _ _ (hI.put 4 99 rfl rfl (by rw [hz]; decide) rfl hUN rfl HBB (md31_stb a1 n1 c1 a2 n2 c2 a3 n3 c3 x b1 m1 d1 b2 m2 d2 b3 m3 d3 y z m n cd w.heap.size (w17.heap.size)) hb ⟨p1, f1, p2, f2, p3, f3, rfl, hk⟩)⟩
          · intro lQ b W hI hUN hED KQ hKQ
            have f := hI.got 4 (of_decide_eq_true rfl) (edge hED 4 (by kernel_rfl)) rfl
            exact opw_move 99 rfl (hKQ.out _ _ (hI.put 5 94 rfl rfl (by rw [hz]; decide) rfl hUN rfl HBB (md31_stb a1 n1 c1 a2 n2 c2 a3 n3 c3 x b1 m1 d1 b2 m2 d2 b3 m3 d3 y z m n cd w.heap.size (w17.heap.size)) (Below.refl _ _) f))
          · intro lQ b W hI hUN hED KQ hKQ
            have f := hI.got 5 (of_decide_eq_true rfl) (edge hED 5 (by kernel_rfl)) rfl
            obtain ⟨p1, f1, p2, f2, p3, f3, f, o_0⟩ := f
            exact opw_extract 94 0 rfl _ _ f rfl (hKQ.out _ _ (hI.put 6 100 rfl rfl (by rw [hz]; decide) rfl hUN rfl HBB (md31_stb a1 n1 c1 a2 n2 c2 a3 n3 c3 x b1 m1 d1 b2 m2 d2 b3 m3 d3 y z m n cd w.heap.size (w17.heap.size)) (Below.refl _ _) ⟨p1, f1, p2, f2, p3, f3, rfl, o_0⟩))
          · intro lQ b W hI hUN hED KQ hKQ
            have f := hI.got 5 (of_decide_eq_true rfl) (edge hED 5 (by kernel_rfl)) rfl
            obtain ⟨p1, f1, p2, f2, p3, f3, f, o_0⟩ := f
            exact opw_extract 94 1 rfl _ _ f rfl (hKQ.out _ _ (hI.put 7 101 rfl rfl (by rw [hz]; decide) rfl hUN rfl HBB (md31_stb a1 n1 c1 a2 n2 c2 a3 n3 c3 x b1 m1 d1 b2 m2 d2 b3 m3 d3 y z m n cd w.heap.size (w17.heap.size)) (Below.refl _ _) rfl))
          · intro lQ b W hI hUN hED KQ hKQ
            refine opw_value (w' := W.alloc (.cells #[.slice none 0 0, .int .i64 0, .int .i64 0, .int .i64 0, .int .i64 0, .int .i64 0, .bool false, .slice none 0 0, .slice none 0 0] 36)) (.pointer (some ⟨W.heap.size, 0, none⟩)) (by kernel_rfl) ?_
            exact hKQ.out _ _ (hI.put 8 15 rfl rfl (by rw [hz]; decide) rfl hUN rfl HBB (md31_stb a1 n1 c1 a2 n2 c2 a3 n3 c3 x b1 m1 d1 b2 m2 d2 b3 m3 d3 y z m n cd w.heap.size (w17.heap.size)) ((Below.refl _ _).alloc (Nat.le_refl _) _) ⟨W.heap.size, rfl, heap_alloc_new W _, Nat.le_trans HBB hI.bel.size⟩)
          · intro lQ b W hI hUN hED KQ hKQ
            obtain ⟨g, fb, hgb, hge⟩ := hI.got1 8 9 (of_decide_eq_true rfl) (edge hED 8 (by kernel_rfl)) hUN rfl
            have f := hI.got 6 (of_decide_eq_true rfl) (edge hED 6 (by kernel_rfl)) rfl
            obtain ⟨p1, f1, p2, f2, p3, f3, f, o_0⟩ := f
            refine wp_store_row 36 _ _ rfl g #[.slice p1 m f1, .int .i64 z.num, .int .i64 z.base, .int .i64 z.tm, .int .i64 z.next, .int .i64 z.scope, .bool z.ind, .slice p2 n f2, .slice p3 0 f3] fb f 36 _ hgb (by kernel_rfl) rfl (by simp [Value.oneCell']) ?_
            have ht := setRow_touch W g #[.slice p1 m f1, .int .i64 z.num, .int .i64 z.base, .int .i64 z.tm, .int .i64 z.next, .int .i64 z.scope, .bool z.ind, .slice p2 n f2, .slice p3 0 f3]
            exact hKQ.out _ _ (hI.storel 9 (fun j hj => by
                rcases List.mem_cons.1 hj with rfl | hj
                · exact edge hED 8 (by kernel_rfl)
                rcases List.mem_singleton.1 hj with rfl
                exact edge hED 4 (by kernel_rfl)) (hI.bel.trans (ht.below hge (Nat.le_trans HBB hI.bel.size))) (md31_st9 a1 n1 c1 a2 n2 c2 a3 n3 c3 x b1 m1 d1 b2 m2 d2 b3 m3 d3 y z m n cd w.heap.size (w17.heap.size) hgb ht hge hI.cl hUN (fun j hj => by
                rcases List.mem_cons.1 hj with rfl | hj
                · exact edge hED 8 (by kernel_rfl)
                rcases List.mem_singleton.1 hj with rfl
                exact edge hED 4 (by kernel_rfl))) ⟨g, p1, f1, p2, f2, p3, f3, fb, (setRow_heap W g _ _ _ _ hgb), hge, o_0.touched hgb (by decide) (by decide) ht⟩)
          · intro lQ b W hI hUN hED KQ hKQ
            have f := hI.got 7 (of_decide_eq_true rfl) (edge hED 7 (by kernel_rfl)) rfl
            exact opw_assign 101 rfl (hKQ.out _ _ (hI.put 10 16 rfl rfl (by rw [hz]; decide) rfl hUN rfl HBB (md31_stb a1 n1 c1 a2 n2 c2 a3 n3 c3 x b1 m1 d1 b2 m2 d2 b3 m3 d3 y z m n cd w.heap.size (w17.heap.size)) (Below.refl _ _) f))
        · intro b W hf hb F
          obtain ⟨ge, q1, e1, q2, e2, q3, e3, eB, hX, hXge, hA⟩ := F 9 (of_decide_eq_true rfl) rfl
          replace eB : aT b 15 = _ := eB
          have eC := F 10 (of_decide_eq_true rfl) rfl
          replace eC : aT b 16 = _ := eC
          rw [hf.eq]
          simp only [puts, Act.put, List.setIfInBounds_toArray, List.set_cons_zero, List.set_cons_succ, eB, eC]
          clear hf F
          clear eB eC
          generalize aT b = AT
          clear b
          obtain ⟨w18, hW⟩ : ∃ w18, w18 = W := ⟨_, rfl⟩
          subst hW
          have F18 : Hid (_) := F17.out.on hb
          have GM18 : Hid (_) := GM17.out.below hb
          have AE18 : Hid (AnS 0 w18 q1 m e1 q2 n e2 z) := hA
          have XE18 : Hid (w18.heap[ge]? = some (.cells #[.slice q1 m e1, .int .i64 z.num, .int .i64 z.base, .int .i64 z.tm, .int .i64 z.next, .int .i64 z.scope, .bool z.ind, .slice q2 n e2, .slice q3 0 e3] 36 (0, 0))) := hX
          clear hb hX hXge hA F17 GM17
          go_wp2_with (first | (refine wpList_load_row rfl 36 _ rfl (ge) rfl 36 #[.slice q1 m e1, .int .i64 z.num, .int .i64 z.base, .int .i64 z.tm, .int .i64 z.next, .int .i64 z.scope, .bool z.ind, .slice q2 n e2, .slice q3 0 e3] (0, 0) _ XE18.out Tryd.underlying36 rfl (by kernel_rfl) ?_) | (refine wpList_load_row rfl 36 _ rfl (gs) rfl 36 #[.slice p1 m f1, .int .i64 z.num, .int .i64 z.base, .int .i64 z.tm, .int .i64 z.next, .int .i64 z.scope, .bool z.ind, .slice p2 n f2, .slice p3 0 f3] (0, 0) _ (F18.out.all (gs, #[.slice p1 m f1, .int .i64 z.num, .int .i64 z.base, .int .i64 z.tm, .int .i64 z.next, .int .i64 z.scope, .bool z.ind, .slice p2 n f2, .slice p3 0 f3], 36) (by simp)) Tryd.underlying36 rfl (by kernel_rfl) ?_))
          refine (eqCrl_raw q1 m e1 q2 n e2 q3 0 e3 p1 f1 p2 f2 p3 f3 z _ (AE18.out.crs HOZ.out) ((HS3.out.kept F18.out.below).crs HOZ.out) (by omega)).mono ?_
          rintro e w19 ⟨rfl, hb⟩
          have F19 : Hid (_) := F18.out.on hb
          have GM19 : Hid (_) := GM18.out.below hb
          clear F18 GM18
          clear hb AE18 XE18
          go_wp2_with (refine wpList_load_row rfl 36 _ rfl (w8.heap.size) rfl 36 #[.slice g1 m h1, .int .i64 z.num, .int .i64 z.base, .int .i64 z.tm, .int .i64 z.next, .int .i64 z.scope, .bool z.ind, .slice g2 n h2, .slice g3 0 h3] (0, 0) _ (F19.out.all (w8.heap.size, #[.slice g1 m h1, .int .i64 z.num, .int .i64 z.base, .int .i64 z.tm, .int .i64 z.next, .int .i64 z.scope, .bool z.ind, .slice g2 n h2, .slice g3 0 h3], 36) (by simp)) Tryd.underlying36 rfl (by kernel_rfl) ?_)
          refine (heldCrl_raw w7.heap.size g1 m h1 g2 n h2 g3 0 h3 z slg pvg vsg 1 _ GM19.out HOZ.out HLG.out (by decide) (by decide)).mono ?_
          rintro e w20 ⟨rfl, hb⟩
          have F20 : Hid (_) := F19.out.on hb
          clear hb F19 GM19
          rw [HKK.out]
          go_wp2
          go_ret
          exact ⟨rfl, HB3.out.trans (F20.out.below.mono HB3.out.size)⟩

end Go.Proofs.YtbfjkmlmnhphoaaDoor
