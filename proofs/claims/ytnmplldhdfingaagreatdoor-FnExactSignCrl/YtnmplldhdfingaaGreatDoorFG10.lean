import Derived.Test.YtnmplldhdfingaaGreatDoorFG09
set_option maxRecDepth 10000
set_option maxHeartbeats 8000000
set_option linter.unusedVariables false
namespace Go.Proofs.YtnmplldhdfingaaGreatDoor
open Go.RowKit
theorem l8Up_any (a:Option Addr)(n c:Nat)(zs:List Int)(w:World)(h:RowU w a n zs)(hn:n≤1000) :
  Calls Tryz.prog 93 #[.slice a n c] w fun e w'=>∃ ar cr,e=.returned (.slice ar (n / 2) cr)∧OwnU w.heap.size w' ar (n / 2) cr (upL zs)∧Below w.heap.size w w':=by
 obtain ⟨i0,hi,hz0,hz1,hz2⟩:=info_parts Tryz.infoU
 have H0:Hid (RowU w a n zs):=h
 have HL:Hid (zs.length=n):=h.len
 clear h
 obtain ⟨m,hm⟩:∃ m,m=n / 2:=⟨_,rfl⟩
 have HM:Hid (m=n / 2):=hm
 have HML:Hid (zs.length / 2=m):=by show _=_; rw [HL.out,hm]
 rw [← hm]
 clear hm
 have hm5:m≤500:=by have:=HM.out; omega
 have hoe:=ownU_empty w
 have hbe:Below w.heap.size w (w.alloc (.cells #[] 29)):=(Below.refl _ _).alloc (Nat.le_refl _) _
 go_enter Tryz.func93,Tryz.ntmps93
 go_wp2
 go_loopw [3,4] (fun o i wr=>∃ (k q cc:Nat) (ao:Option Addr),k≤m∧q=k∧i=.int .i64 (2 * (k:Int))∧o=.slice ao q cc∧OwnU w.heap.size wr ao q cc ((upL zs).take k)∧Below w.heap.size w wr) (fun _ i _=>2 * m - (intOf i).toNat)
 case atStart=>exact ⟨0,0,0,_,Nat.zero_le _,rfl,rfl,rfl,hoe,hbe⟩
 case round =>
  obtain ⟨k,q,cc,ao,hk,rfl,rfl,rfl,hor,hbr⟩:=hrel
  have hws:=hbr.size
  by_cases hlt:q<m
  ·have h2n:2 * q+1<n:=by have:=HM.out; omega
   obtain ⟨b,off,rfl,hlb,hc0⟩:=H0.out.get (2 * q) (by omega)
   obtain ⟨b',off',hb',_,hc1⟩:=H0.out.get (2 * q+1) h2n
   simp only [Option.some.injEq,Addr.mk.injEq,and_true] at hb'
   obtain ⟨rfl,rfl⟩:=hb'
   obtain ⟨x,hx⟩:∃ x,x=zs.getD (2 * q) 0:=⟨_,rfl⟩
   obtain ⟨y,hy⟩:∃ y,y=zs.getD (2 * q+1) 0:=⟨_,rfl⟩
   have hxb:=H0.out.rng (2 * q)
   have hyb:=H0.out.rng (2 * q+1)
   rw [← hx] at hc0 hxb
   rw [← hy] at hc1 hyb
   have HV:Hid (hashD ndW [x,y]=upN zs q):=by show _=_; unfold upN; rw [hx,hy]
   have HXD:∀ w7,Below wr.heap.size wr w7→w7.cell? ⟨b,off+2 * q,none⟩=some (.int .u64 x)∧w7.cell? ⟨b,off+(2 * q+1),none⟩=some (.int .u64 y):=fun w7 h7 =>
    have hb7:=keepT hbr h7
    ⟨(hb7.cell (p:=⟨b,off+2 * q,none⟩) hlb).trans hc0,(hb7.cell (p:=⟨b,off+(2 * q+1),none⟩) hlb).trans hc1⟩
   have HXW:∀ w7,Below w.heap.size w w7→w7.cell? ⟨b,off+2 * q,none⟩=some (.int .u64 x)∧w7.cell? ⟨b,off+(2 * q+1),none⟩=some (.int .u64 y):=fun w7 hb7 =>
    ⟨(hb7.cell (p:=⟨b,off+2 * q,none⟩) hlb).trans hc0,(hb7.cell (p:=⟨b,off+(2 * q+1),none⟩) hlb).trans hc1⟩
   have HOR:Hid (∀ w7,Below wr.heap.size wr w7→w7.ownsRow w.heap.size 29 1 (.slice ao q cc) q (((upL zs).take q).map (Value.int .u64))):=fun w7 h7=>(hor.kept h7).row
   have i3:2 * (q:Int)<(n:Int):=by omega
   have i4:2 * (q:Int)+1<(n:Int):=by omega
   have t1:(2 * (q:Int)).toNat=2 * q:=by omega
   have t2:(2 * (q:Int)+1).toNat=2 * q+1:=by omega
   have u1:IntKind.i64.wrap (2 * (q:Int))=2 * (q:Int):=by rw [IntKind.wrap_i64]; omega
   have u2:IntKind.i64.wrap (2 * (q:Int)+1)=2 * (q:Int)+1:=by rw [IntKind.wrap_i64]; omega
   have u3:0≤2 * (q:Int):=by omega
   have u4:0≤2 * (q:Int)+1:=by omega
   have SS:=HXD _ (Below.refl _ _)
   have hdr:Below wr.heap.size wr wr.drew:=(Below.refl _ _).drew
   have SS1:=HXD _ hdr
   clear hx hy hc0 hc1 hor hoe hbe
   go_wp2_with fail
   go_region_held_law (fun w'=>w'.cell? ⟨b,off+2 * q,none⟩=some (.int .u64 x)∧w'.cell? ⟨b,off+(2 * q+1),none⟩=some (.int .u64 y)) (first | assumption | exact SS | exact SS1 | exact SS2 | exact SS3 | exact SS4)
    (first
     | (go_at_call 122; refine (l8Node_any x y _ hxb hyb).mono ?_; rintro e w3 ⟨rfl,hb3⟩; rw [HV.out]; have hb37:=keepT hdr hb3; have SS2:=HXD _ hb37; have hal:Below wr.heap.size wr (w3.alloc (.cells #[.int .u64 (upN zs q)] 29)):=hb37.alloc hb37.size _; have SS3:=HXD _ hal; have hor3:=HOR.out _ hal; have hcl:=cell_oneU w3 (upN zs q))
     | (refine step_append_ownT rfl (.tmp 13) (.tmp 24) 83 rfl w.heap.size 29 i0 _ 1 8 Tryz.underlying83 hi hz0 hz1 hz2 rfl (by decide) _ q _ rfl hor3 ⟨w3.heap.size,0,none⟩ 1 1 ([upN zs q].map (Value.int .u64)) rfl rfl hcl (ints_oneCell .u64 [upN zs q]) (by unfold maxLen; omega) (by omega) (by have:=hal.size; omega) ?_; intro v4 w4 hv4 hg4; have hbr4:Below w.heap.size w w4:=(keepT hbr hal).grown hg4 (by have:=(keepT hbr hal).size; exact this) (fun k hk=>(hor3.lt k hk).1); have SS4:=HXW _ hbr4))
   all_goals
    have e1:((upL zs).take q).map (Value.int .u64)++[upN zs q].map (Value.int .u64)=((upL zs).take (q+1)).map (Value.int .u64):=by rw [take_snoc (upL zs) q (by rw [upL_len,HML.out]; exact hlt),upL_get zs q (by rw [HML.out]; exact hlt),List.map_append]
    rw [e1] at hv4
    obtain ⟨a4,c4,rfl,ho4⟩:=ownU_appended (u64_take (upL_bd zs) _) hv4
    go_wp2
    go_roundw
    case rel=>exact ⟨q+1,q+1,c4,a4,by omega,rfl,by go_num,rfl,ho4,hbr4⟩
    case measure=>simp [intOf]; omega
  ·obtain rfl:q=m:=by omega
   rw [List.take_of_length_le (by rw [upL_len,HML.out]; exact Nat.le_refl _)] at hor
   have HR:Hid (_):=hor
   have hd:¬ (2 * (q:Int)+1<(n:Int)):=by have:=HM.out; omega
   clear hor
   go_wp2
   go_ret
   exact ⟨_,_,rfl,HR.out,hbr⟩
open Go.RowKit
def HN (h:Int)(N:Nat):Prop:=(h=0∧N=1)∨(h=1∧N=2)∨(h=2∧N=4)∨(h=3∧N=8)∨(h=4∧N=16)∨(h=5∧N=32)
theorem HN.of {h:Int}(h0:0≤h)(h5:h≤5):∃ N,HN h N:=by
 unfold HN
 have:h=0∨h=1∨h=2∨h=3∨h=4∨h=5:=by omega
 rcases this with rfl | rfl | rfl | rfl | rfl | rfl
 ·exact ⟨1,by omega⟩
 ·exact ⟨2,by omega⟩
 ·exact ⟨4,by omega⟩
 ·exact ⟨8,by omega⟩
 ·exact ⟨16,by omega⟩
 ·exact ⟨32,by omega⟩
theorem HN.le {h:Int}{N:Nat}(hn:HN h N):1≤N∧N≤32:=by unfold HN at hn; omega
theorem HN.sh {h:Int}{N:Nat}(hn:HN h N):wrap64 ((2:Int) ^ h.toNat)=(N:Int):=by
 unfold HN at hn
 rcases hn with ⟨rfl,rfl⟩ | ⟨rfl,rfl⟩ | ⟨rfl,rfl⟩ | ⟨rfl,rfl⟩ | ⟨rfl,rfl⟩ | ⟨rfl,rfl⟩ <;> decide +kernel
def leavesN (seed:Int)(N:Nat):List Int:=(List.range N).map fun (i:Nat)=>leafN seed (i:Int)
theorem leavesN_len (seed:Int)(N:Nat):(leavesN seed N).length=N:=by simp [leavesN]
theorem leavesN_get (seed:Int)(N k:Nat)(h:k<N):(leavesN seed N).getD k 0=leafN seed (k:Int):=by simp [leavesN,h]
theorem leavesN_bd (seed:Int)(N:Nat):∀ k,U64 ((leavesN seed N).getD k 0):=by
 intro k
 by_cases h:k<N
 ·rw [leavesN_get seed N k h]; exact leafN_bd _ _
 ·rw [List.getD_eq_getElem?_getD,List.getElem?_eq_none (by rw [leavesN_len]; omega)]; simp [U64]
theorem leavesN_snoc (seed:Int)(N k:Nat)(h:k<N):(leavesN seed N).take (k+1)=(leavesN seed N).take k++[leafN seed (k:Int)]:=by
 rw [take_snoc _ _ (by rw [leavesN_len]; exact h),leavesN_get seed N k h]
theorem leaves_any (seed h next:Int)(N:Nat)(w:World)(hN:HN h N) :
  Calls Tryz.prog 193 #[tkv seed h next] w fun e w'=>e=.returned (.int .i64 N)∧Below w.heap.size w w':=by
 rw [tkv]
 have hbb:Below w.heap.size w (w.alloc (.cells #[.int .u64 seed,.int .i64 h,.int .i64 next] 87)):=(Below.refl _ _).alloc (Nat.le_refl _) _
 unfold HN at hN
 rcases hN with ⟨rfl,rfl⟩ | ⟨rfl,rfl⟩ | ⟨rfl,rfl⟩ | ⟨rfl,rfl⟩ | ⟨rfl,rfl⟩ | ⟨rfl,rfl⟩
 all_goals
  go_enter Tryz.func193,Tryz.ntmps193
  go_wp2
  go_ret
  exact ⟨rfl,hbb⟩
theorem l8Leaves_any (seed h next:Int)(N:Nat)(w:World)(hx:U64 seed)(hN:HN h N) :
  Calls Tryz.prog 92 #[tkv seed h next] w fun e w'=>∃ ar cr,e=.returned (.slice ar N cr)∧OwnU w.heap.size w' ar N cr (leavesN seed N)∧Below w.heap.size w w':=by
 obtain ⟨i0,hi,hz0,hz1,hz2⟩:=info_parts Tryz.infoU
 have hNle:=hN.le
 obtain ⟨wb,hwb⟩:∃ wb,wb=w.alloc (.cells #[.int .u64 seed,.int .i64 h,.int .i64 next] 87):=⟨_,rfl⟩
 have hbb:Below w.heap.size w wb:=by rw [hwb]; exact (Below.refl _ _).alloc (Nat.le_refl _) _
 have HBX:Hid (∀ w7,Below wb.heap.size wb w7→w7.cell? ⟨w.heap.size,0,none⟩=some (.int .u64 seed)∧w7.cell? ⟨w.heap.size,1,none⟩=some (.int .i64 h)):=by
  intro w7 h7
  have hbx:w7.heap[w.heap.size]? = some (.cells #[.int .u64 seed,.int .i64 h,.int .i64 next] 87):=(h7.block _ (by rw [hwb]; simp)).trans (by rw [hwb]; exact heap_alloc_new w _)
  exact ⟨(cell_of_row _ w.heap.size 0 _ 87 (0,0) hbx).trans rfl,(cell_of_row _ w.heap.size 1 _ 87 (0,0) hbx).trans rfl⟩
 have HWB:Hid (_=_):=hwb
 clear hwb
 have HOE:Hid (OwnU wb.heap.size (wb.alloc (.cells #[] 29)) (some ⟨wb.heap.size,0,none⟩) 0 0 ((leavesN seed N).take 0)):=ownU_empty wb
 have hbe:Below wb.heap.size wb (wb.alloc (.cells #[] 29)):=(Below.refl _ _).alloc (Nat.le_refl _) _
 rw [tkv]
 go_enter Tryz.func92,Tryz.ntmps92
 go_upto_region 1 with fail
 rw [← HWB.out]
 clear HWB
 go_wp2
 go_loopw [3,4] (fun o i wr=>∃ (k q cc:Nat) (ao:Option Addr),k≤N∧q=k∧i=.int .i64 (k:Int)∧o=.slice ao q cc∧OwnU wb.heap.size wr ao q cc ((leavesN seed N).take k)∧Below wb.heap.size wb wr) (fun _ i _=>N - (intOf i).toNat)
 case atStart=>exact ⟨0,0,0,_,Nat.zero_le _,rfl,rfl,rfl,HOE.out,hbe⟩
 case round =>
  obtain ⟨k,q,cc,ao,hk,rfl,rfl,rfl,hor,hbr⟩:=hrel
  obtain ⟨wo,rfl⟩:∃ wo,wo=wr:=⟨wr,rfl⟩
  have HBR:Hid (Below wb.heap.size wb wo):=hbr
  have HOR:Hid (_):=hor
  obtain ⟨q0,q1⟩:=HBX.out _ hbr
  clear hor hbr HOE hbe
  have hh:0≤h∧h≤5:=by have:=hN; unfold HN at this; omega
  obtain ⟨hh0,hh5⟩:=hh
  have hsh:=hN.sh
  by_cases hlt:q<N
  ·have hlti:(q:Int)<(N:Int):=by omega
   have HOE2:Hid (OwnU wo.heap.size (wo.alloc (.cells #[] 29)) (some ⟨wo.heap.size,0,none⟩) 0 0 ((endsN seed (q:Int)).take 0)):=ownU_empty wo
   have hbe2:Below wo.heap.size wo (wo.alloc (.cells #[] 29)):=(Below.refl _ _).alloc (Nat.le_refl _) _
   go_wp2
   clear q0 q1 hsh
   go_loopw [5,6] (fun o i wx=>∃ (j m cc2:Nat) (ae:Option Addr),j≤18∧m=j∧i=.int .i64 (j:Int)∧o=.slice ae m cc2∧OwnU wo.heap.size wx ae m cc2 ((endsN seed (q:Int)).take j)∧Below wo.heap.size wo wx) (fun _ i _=>18 - (intOf i).toNat)
   case atStart=>exact ⟨0,0,0,_,Nat.zero_le _,rfl,rfl,rfl,HOE2.out,hbe2⟩
   case round =>
    obtain ⟨j,m,cc2,ae,hj,rfl,rfl,rfl,hoe,hbx⟩:=hrel
    have HBX2:Hid (Below wo.heap.size wo wr):=hbx
    have HOX:Hid (_):=hoe
    clear hoe HOE2 hbe2 hbx
    by_cases hjl:m<18
    ·obtain ⟨q0,q1⟩:=HBX.out _ (keepT HBR.out HBX2.out)
     have hjli:(m:Int)<18:=by omega
     go_wp2_with fail
     refine (l8Start_any seed (q:Int) (m:Int) _ hx (by omega) (by omega)).mono ?_
     rintro e w3 ⟨rfl,hb3⟩
     clear q0 q1
     go_wp2_with fail
     refine (l8Steps_any (startN seed (q:Int) (m:Int)) 15 _ (startN_bd _ _ _) (by decide)).mono ?_
     rintro e w4 ⟨rfl,hb4⟩
     have hb34:=keepT hb3 hb4
     have HE:Hid (stepsN (startN seed (q:Int) (m:Int)) 15=endN seed (q:Int) m):=rfl
     rw [HE.out]
     have hal:Below w4.heap.size w4 (w4.alloc (.cells #[.int .u64 (endN seed (q:Int) m)] 29)):=(Below.refl _ _).alloc (Nat.le_refl _) _
     have hor4:=(HOX.out.kept (keepT hb34 hal)).row
     have hbr4:=keepT HBX2.out (keepT hb34 hal)
     have hcl:=cell_oneU w4 (endN seed (q:Int) m)
     clear hb3 hb4 hb34 hal HOX
     go_wp2_with (first | (at_builtin; refine wpList_append_own _ rfl (.tmp 21) (.tmp 28) 83 rfl wo.heap.size 29 i0 _ 1 8 Tryz.underlying83 hi hz0 hz1 hz2 rfl (by decide) _ m _ rfl hor4 ⟨w4.heap.size,0,none⟩ 1 1 ([endN seed (q:Int) m].map (Value.int .u64)) rfl rfl hcl (ints_oneCell .u64 [endN seed (q:Int) m]) (by unfold maxLen; omega) (by omega) (by have:=hbr4.size; exact this) ?_; intro v5 w5 hv5 hg5 _))
     have e1:((endsN seed (q:Int)).take m).map (Value.int .u64)++[endN seed (q:Int) m].map (Value.int .u64)=((endsN seed (q:Int)).take (m+1)).map (Value.int .u64):=by rw [take_snoc _ m (by rw [endsN_len]; exact hjl),endsN_get seed (q:Int) m hjl,List.map_append]
     rw [e1] at hv5
     obtain ⟨a5,c5,rfl,ho5⟩:=ownU_appended (u64_take (endsN_bd seed (q:Int)) _) hv5
     have hbr5:Below wo.heap.size wo w5:=hbr4.grown hg5 hbr4.size (fun k hk=>(hor4.lt k hk).1)
     go_roundw
     case rel=>exact ⟨m+1,m+1,c5,a5,by omega,rfl,by go_num,rfl,ho5,hbr5⟩
     case measure=>simp [intOf]; omega
    ·obtain rfl:m=18:=by omega
     have HEN:Hid (RowU wr ae 18 (endsN seed (q:Int))):=by
      have:=HOX.out.toRow
      rwa [List.take_of_length_le (by rw [endsN_len]; exact Nat.le_refl _)] at this
     clear HOX
     go_wp2_with fail
     refine (l8Leaf_any ae 18 cc2 (endsN seed (q:Int)) _ HEN.out (by decide)).mono ?_
     rintro e w4 ⟨rfl,hb4⟩
     have HE:Hid (hashD leW (endsN seed (q:Int))=leafN seed (q:Int)):=rfl
     rw [HE.out]
     have hal:Below w4.heap.size w4 (w4.alloc (.cells #[.int .u64 (leafN seed (q:Int))] 29)):=(Below.refl _ _).alloc (Nat.le_refl _) _
     have hall:=keepT HBX2.out (keepT hb4 hal)
     have hor4:=(HOR.out.kept hall).row
     have hbr4:=keepT HBR.out hall
     have hcl:=cell_oneU w4 (leafN seed (q:Int))
     clear hb4 hal hall HOR
     go_wp2_with (first | (at_builtin; refine wpList_append_own _ rfl (.tmp 30) (.tmp 33) 83 rfl wb.heap.size 29 i0 _ 1 8 Tryz.underlying83 hi hz0 hz1 hz2 rfl (by decide) _ q _ rfl hor4 ⟨w4.heap.size,0,none⟩ 1 1 ([leafN seed (q:Int)].map (Value.int .u64)) rfl rfl hcl (ints_oneCell .u64 [leafN seed (q:Int)]) (by unfold maxLen; omega) (by omega) (by have:=hbr4.size; exact this) ?_; intro v5 w5 hv5 hg5 _))
     have e1:((leavesN seed N).take q).map (Value.int .u64)++[leafN seed (q:Int)].map (Value.int .u64)=((leavesN seed N).take (q+1)).map (Value.int .u64):=by rw [leavesN_snoc seed N q hlt,List.map_append]
     rw [e1] at hv5
     obtain ⟨a5,c5,rfl,ho5⟩:=ownU_appended (u64_take (leavesN_bd seed N) _) hv5
     have hbr5:Below wb.heap.size wb w5:=hbr4.grown hg5 hbr4.size (fun k hk=>(hor4.lt k hk).1)
     go_roundw
     case rel=>exact ⟨q+1,q+1,c5,a5,by omega,rfl,by go_num,rfl,ho5,hbr5⟩
     case measure=>simp [intOf]; omega
  ·obtain rfl:q=N:=by omega
   have HF:Hid (OwnU w.heap.size wo ao q cc (leavesN seed q)):=by
    have h1:=HOR.out
    rw [List.take_of_length_le (by rw [leavesN_len]; exact Nat.le_refl _)] at h1
    exact ⟨⟨h1.row.1,by rcases h1.row.2 with h | ⟨g,cap,cur,hv,hb,r⟩; exact .inl h; exact .inr ⟨g,cap,cur,hv,by have:=hbb.size; omega,r⟩⟩,h1.rng⟩
   have HB:Hid (Below w.heap.size w wo):=keepT hbb HBR.out
   clear HOR
   go_wp2
   go_ret
   exact ⟨_,_,rfl,HF.out,HB.out⟩
open Go.RowKit
def lenT:Value→Nat
 | .slice _ n _=>n
 | _=>0
def sib (x:Nat):Nat:=if x % 2=0 then x+1 else x - 1
theorem xor_sib:∀ x:Nat,x<32→bits .xor .i64 (x:Int) 1=(sib x:Int):=by decide +kernel
theorem sib_lt {x m:Nat}(h:x<2 * m):sib x<2 * m:=by unfold sib; split <;> omega
def lev (zs:List Int):Nat→List Int
 | 0=>zs
 | k+1=>upL (lev zs k)
theorem lev_bd (zs:List Int)(hz:∀ k,U64 (zs.getD k 0))(j:Nat):∀ k,U64 ((lev zs j).getD k 0):=by
 cases j with
 | zero=>exact hz
 | succ j=>exact upL_bd _
def pathN (zs:List Int)(L:Nat):Nat→List Int
 | 0=>[]
 | k+1=>pathN zs L k++[(lev zs k).getD (sib (L / 2 ^ k)) 0]
theorem pathN_len (zs:List Int)(L k:Nat):(pathN zs L k).length=k:=by
 induction k with
 | zero=>rfl
 | succ k ih=>rw [pathN,List.length_append,ih]; rfl
theorem pathN_bd (zs:List Int)(hz:∀ k,U64 (zs.getD k 0))(L k:Nat):∀ j,U64 ((pathN zs L k).getD j 0):=by
 induction k with
 | zero=>intro j; simp [pathN,U64]
 | succ k ih=>exact u64_snoc ih (lev_bd zs hz k _)
theorem div_pow_lt {L H k:Nat}(hL:L<2 ^ H)(hk:k≤H):L / 2 ^ k<2 ^ (H - k):=by
 rw [Nat.div_lt_iff_lt_mul (Nat.pow_pos (by decide)),← Nat.pow_add,show H - k+k=H by omega]
 exact hL
theorem HN.pow {h:Int}{N:Nat}(hn:HN h N):N=2 ^ h.toNat∧h.toNat≤5:=by
 unfold HN at hn
 rcases hn with ⟨rfl,rfl⟩ | ⟨rfl,rfl⟩ | ⟨rfl,rfl⟩ | ⟨rfl,rfl⟩ | ⟨rfl,rfl⟩ | ⟨rfl,rfl⟩ <;> decide
theorem wayUp_any (seed h next:Int)(N L:Nat)(w:World)(hx:U64 seed)(hN:HN h N)(hL:L<N) :
  Calls Tryz.prog 200 #[.int .i64 N,.int .i64 L,.func (Fn.func 201) #[tkv seed h next] #[]] w fun e w'=>∃ ap cp,e=.returned (.tuple #[.int .u64 ((lev (leavesN seed N) h.toNat).getD 0 0),.slice ap h.toNat cp])∧OwnU w.heap.size w' ap h.toNat cp (pathN (leavesN seed N) L h.toNat)∧Below w.heap.size w w':=by
 obtain ⟨i0,hi,hz0,hz1,hz2⟩:=info_parts Tryz.infoU
 have hN1:=hN.le.1
 have hN2:=hN.le.2
 obtain ⟨H,hH⟩:∃ H,H=h.toNat:=⟨_,rfl⟩
 have hp:=hN.pow
 rw [← hH] at hp ⊢
 obtain ⟨hpN,hH5⟩:=hp
 have HP:Hid (N=2 ^ H):=hpN
 have hZL:(leavesN seed N).length=N:=leavesN_len seed N
 obtain ⟨zs,hzs⟩:∃ zs,zs=leavesN seed N:=⟨_,rfl⟩
 have HZ:Hid (zs=leavesN seed N):=hzs
 have HZB:Hid (∀ k,U64 (zs.getD k 0)):=by rw [hzs]; exact leavesN_bd seed N
 rw [← hzs] at hZL ⊢
 have HZL:Hid (zs.length=N):=hZL
 clear hH hpN hzs hZL
 go_enter Tryz.func200,Tryz.ntmps200
 go_wp2_with (first | (at_make; refine wpList_make_full _ rfl _ _ 83 rfl w.heap.size 29 i0 _ 1 Tryz.underlying83 hi hz0 hz1 _ _ _ _ N rfl rfl rfl rfl (by rw [hz2]; omega) (by unfold maxLen; omega) (by exact Nat.le_refl _) ?_; intro w2 hown hgrow))
 have hbl:Below w.heap.size w w2:=(Below.refl _ _).grown hgrow (Nat.le_refl _) (by simp)
 have HST:Hid (OwnU w.heap.size w2 (some ⟨w.heap.size,0,none⟩) N N (half zs 0)):=by
  show OwnU _ _ _ _ _ _
  rw [half_zero,HZL.out]
  exact ⟨madeU hown,u64_rep N⟩
 clear hgrow hown
 go_loopw [15] (fun i wr=>∃ k:Nat,k≤N∧i=.int .i64 k∧Hid (OwnU w.heap.size wr (some ⟨w.heap.size,0,none⟩) N N (half zs k))∧Below w.heap.size w wr) (fun i _=>N - (intOf i).toNat)
 case atStart=>exact ⟨0,Nat.zero_le _,rfl,HST,hbl⟩
 case round =>
  obtain ⟨k,hk,rfl,HO,hbr⟩:=hrel
  by_cases hlt:k<N
  ·have hlti:(k:Int)<(N:Int):=by omega
   have hgk:zs.getD k 0=leafN seed (k:Int):=by rw [HZ.out]; exact leavesN_get seed N k hlt
   have HGK:Hid (leafN seed (k:Int)=zs.getD k 0):=hgk.symm
   clear hgk HST hbl
   go_wp2_with fail
   refine (leafDigest_any seed h next (k:Int) _ hx (by omega)).mono ?_
   rintro e w4 ⟨rfl,hb4⟩
   rw [HGK.out]
   have hor:=HO.out.kept hb4
   have hB4:=keepT hbr hb4
   have f0:w4.frozen? ⟨w.heap.size,k,none⟩=false:=hor.row.frozenAt _
   have hvl:((half zs k).map (Value.int .u64)).length=N * 1:=hor.row.1
   obtain ⟨y0,hy0⟩:∃ y,w4.cell? ⟨w.heap.size,k,none⟩=some y:=⟨_,(hor.row.cellAt _ (by omega)).trans (List.getElem?_eq_getElem (by omega))⟩
   have hs:=(hor.row.stored k (.int .u64 (zs.getD k 0))).1
   rw [← List.map_set,half_set zs k (by rw [HZL.out]; exact hlt)] at hs
   obtain ⟨vv,hvv⟩:∃ vv,vv=zs.getD k 0:=⟨_,rfl⟩
   rw [← hvv] at hs ⊢
   clear hvv
   have HNX:Hid (OwnU w.heap.size (w4.setCell ⟨w.heap.size,k,none⟩ (.int .u64 vv)) (some ⟨w.heap.size,0,none⟩) N N (half zs (k+1))):=⟨hs,u64_half HZB.out _⟩
   have HBN:Hid (Below w.heap.size w (w4.setCell ⟨w.heap.size,k,none⟩ (.int .u64 vv))):=hB4.setCell (Nat.le_refl _) _
   clear hs hor hB4 hb4 hbr HO hvl
   go_wp2
   go_roundw
   case rel=>exact ⟨k+1,by omega,by go_num,HNX,HBN.out⟩
   case measure=>simp [intOf]; omega
  ·obtain rfl:k=N:=by omega
   have HR0:Hid (RowU wr (some ⟨w.heap.size,0,none⟩) k (lev zs 0)):=by
    have:=HO.out.toRow
    have e:=half_all zs
    rw [HZL.out] at e
    rwa [e] at this
   have HB0:Hid (Below w.heap.size w wr):=hbr
   clear HO HST hbl hbr
   go_wp2
   go_loopw [8,10,1] (fun r p l wx=>∃ (j n2 c2 cp:Nat) (ar ap:Option Addr),j≤H∧n2≤32∧n2=2 ^ (H - j)∧r=.slice ar n2 c2∧p=.slice ap j cp∧l=.int .i64 ((L / 2 ^ j:Nat):Int)∧RowU wx ar n2 (lev zs j)∧OwnU w.heap.size wx ap j cp (pathN zs L j)∧(∀ g,(Value.slice ap j cp).ownBlock=some g→∀ b' off',ar=some ⟨b',off',none⟩→b'≠g)∧Below w.heap.size w wx) (fun r _ _ _=>lenT r)
   case atStart=>exact ⟨0,k,k,0,_,none,Nat.zero_le _,hN2,HP.out,rfl,rfl,by simp,HR0.out,ownU_none _ _,(fun g hg=>by cases hg),HB0.out⟩
   case round =>
    obtain ⟨j,n2,c2,cp,ar,ap,hj,hn2,hn2e,rfl,rfl,rfl,hro,hpo,hsep,hbx⟩:=hrel
    have HN2:Hid (n2=2 ^ (H - j)):=hn2e
    clear hn2e HR0 HB0
    by_cases hjl:j<H
    ·obtain ⟨m2,hm2⟩:∃ m2,m2=2 ^ (H - (j+1)):=⟨_,rfl⟩
     have hnm:n2=2 * m2:=by rw [HN2.out,hm2,show H - j=H - (j+1)+1 by omega,Nat.pow_succ]; omega
     have hm1:1≤m2:=by rw [hm2]; exact Nat.pow_pos (by decide)
     have hl:L / 2 ^ j<n2:=by rw [HN2.out]; exact div_pow_lt (by rw [← HP.out]; exact hL) hj
     have HLD:Hid (L / 2 ^ (j+1)=L / 2 ^ j / 2):=by show _=_; rw [Nat.pow_succ,Nat.div_div_eq_div_mul]
     have HM2:Hid (m2=2 ^ (H - (j+1))):=hm2
     have HPN:Hid (pathN zs L (j+1)=pathN zs L j++[(lev zs j).getD (sib (L / 2 ^ j)) 0]):=rfl
     obtain ⟨x,hxx⟩:∃ x,x=L / 2 ^ j:=⟨_,rfl⟩
     rw [← hxx] at hl HLD HPN ⊢
     have hs:=sib_lt (x:=x) (m:=m2) (by omega)
     have hxo:=xor_sib x (by omega)
     have hsn:((sib x:Nat):Int)<(n2:Int):=by omega
     obtain ⟨y,hy⟩:∃ y,y=sib x:=⟨_,rfl⟩
     rw [← hy] at hs hxo hsn HPN
     clear hxx hm2 hy
     obtain ⟨b,off,rfl,hlb,hcell⟩:=hro.get y (by omega)
     have hvb:=hro.rng y
     obtain ⟨v,hv⟩:∃ v,v=(lev zs j).getD y 0:=⟨_,rfl⟩
     rw [← hv] at hcell hvb HPN
     have HRO:Hid (RowU wr (some ⟨b,off,none⟩) n2 (lev zs j)):=hro
     have hal:Below wr.heap.size wr (wr.alloc (.cells #[.int .u64 v] 29)):=(Below.refl _ _).alloc (Nat.le_refl _) _
     have hor4:=(hpo.kept hal).row
     have hbr4:=keepT hbx hal
     have hcl:=cell_oneU wr v
     have HPB:Hid (∀ k,U64 ((pathN zs L j++[v]).getD k 0)):=u64_snoc (pathN_bd zs HZB.out L j) hvb
     have hn2i:1<(n2:Int):=by omega
     have HNM:Hid (n2=2 * m2):=hnm
     clear hv hro hpo hnm
     go_wp2_with (first | (at_builtin; refine wpList_append_own _ rfl (.tmp 28) (.tmp 34) 83 rfl w.heap.size 29 i0 _ 1 8 Tryz.underlying83 hi hz0 hz1 hz2 rfl (by decide) _ j _ rfl hor4 ⟨wr.heap.size,0,none⟩ 1 1 ([v].map (Value.int .u64)) rfl rfl hcl (ints_oneCell .u64 [v]) (by unfold maxLen; omega) (by omega) (by have:=hbr4.size; exact this) ?_; intro v5 w5 hv5 hg5 _))
     have hbr5:Below w.heap.size w w5:=hbr4.grown hg5 hbr4.size (fun k hk=>(hor4.lt k hk).1)
     have HR5:Hid (RowU w5 (some ⟨b,off,none⟩) n2 (lev zs j)):=by
      have h1:=HRO.out.kept hal
      refine ⟨h1.len,fun i hi=>?_,h1.rng⟩
      obtain ⟨b1,off1,e1,hl1,hc1⟩:=h1.get i hi
      exact ⟨b1,off1,e1,Nat.lt_of_lt_of_le hl1 hg5.size,(World.cell?_of_block (a:=⟨b1,off1+i,none⟩) (hg5.block b1 hl1 (fun e=>hsep b1 e.symm b1 off1 e1 rfl))).trans hc1⟩
     rw [← List.map_append] at hv5
     obtain ⟨a5,c5,rfl,ho5⟩:=ownU_appended HPB.out hv5
     rw [← HPN.out] at ho5
     clear hal hor4 hbr4 hcl hg5 hv5 HRO hsep hcell
     refine (rowAbove_any _ n2 c2 (lev zs j) _ HR5.out (by omega)).mono ?_
     rintro e w6 ⟨ar6,rfl,ho6,hb6⟩
     have hn2h:n2 / 2=m2:=by have:=HNM.out; omega
     rw [hn2h] at ho6 ⊢
     have HO6:Hid (_):=ho6
     have HO5:Hid (_):=ho5.kept hb6
     have HB6:Hid (Below w.heap.size w w6):=keepT hbr5 hb6
     have HS6:Hid (∀ g,(Value.slice a5 (j+1) c5).ownBlock=some g→∀ b' off',ar6=some ⟨b',off',none⟩→b'≠g):=by
      intro g hg b' off' e
      have h1:=(ho5.row.lt g hg).2
      obtain ⟨g6,e6,hg6,_⟩:=ho6.shape (by omega)
      rw [e6] at e
      simp at e
      omega
     have HX2:Hid (((x:Int) / 2)=((L / 2 ^ (j+1):Nat):Int)):=by show _=_; rw [HLD.out]; omega
     clear ho5 ho6 hb6 hbr5 hn2h HR5
     go_wp2_with fail
     rw [HX2.out]
     go_roundw
     case rel=>exact ⟨j+1,m2,m2,c5,ar6,a5,by omega,by have:=HNM.out; omega,HM2.out,rfl,rfl,rfl,HO6.out.toRow,HO5.out,HS6.out,HB6.out⟩
     case measure=>show m2<n2; have:=HNM.out; omega
    ·obtain rfl:j=H:=by omega
     have h1:n2=1:=by rw [HN2.out,Nat.sub_self]
     subst h1
     obtain ⟨b,off,rfl,hlb,hcell⟩:=hro.get 0 (by decide)
     obtain ⟨v,hv⟩:∃ v,v=(lev zs j).getD 0 0:=⟨_,rfl⟩
     have HV:Hid (v=(lev zs j).getD 0 0):=hv
     rw [← hv,Nat.add_zero] at hcell
     have HPO:Hid (_):=hpo
     have HBX:Hid (_):=hbx
     clear hv hro hpo hbx hsep
     go_wp2
     go_ret2
     exact ⟨_,_,by rw [← HV.out]; rfl,HPO.out,HBX.out⟩
end Go.Proofs.YtnmplldhdfingaaGreatDoor
