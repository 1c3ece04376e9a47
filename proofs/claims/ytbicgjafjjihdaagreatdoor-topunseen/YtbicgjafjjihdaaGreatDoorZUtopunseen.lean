/- Part. -/
import Derived.Test.YtbicgjafjjihdaaGreatDoorZ6
import Derived.Test.YtbicgjafjjihdaaGreatDoorZ7
import Derived.Test.YtbicgjafjjihdaaGreatDoorZ34
import Derived.Test.YtbicgjafjjihdaaGreatDoorZ28
import Derived.Test.YtbicgjafjjihdaaGreatDoorZ17
import Derived.Test.YtbicgjafjjihdaaGreatDoorZ26
set_option maxHeartbeats 16000000
set_option maxRecDepth 100000
namespace Go.Proofs.YtbicgjafjjihdaaGreatDoor
section
open Go.RowKit
theorem equal_data (p q:Pt) (W:World):(Op.equalIn 9999 33 (.agg #[.int .u8 p.d.z0,.int .u8 p.d.z1,.int .u8 p.d.z2,.int .u8 p.d.z3,.int .u8 p.d.z4,.int .u8 p.d.z5,.int .u8 p.d.z6,.int .u8 p.d.z7]) (.agg #[.int .u8 q.d.z0,.int .u8 q.d.z1,.int .u8 q.d.z2,.int .u8 q.d.z3,.int .u8 q.d.z4,.int .u8 q.d.z5,.int .u8 q.d.z6,.int .u8 q.d.z7])).run Tryz.prog W=.ok (decide ([p.d.z0,p.d.z1,p.d.z2,p.d.z3,p.d.z4,p.d.z5,p.d.z6,p.d.z7]=[q.d.z0,q.d.z1,q.d.z2,q.d.z3,q.d.z4,q.d.z5,q.d.z6,q.d.z7])) W:=by
 obtain⟨i0,hi,_⟩:=info_parts Tryz.info5
 rw[run_equalIn_array W 9998 _ _ Tryz.underlying33 hi,Tryz.cellsOf5]
 exact(l5 W 9997 Tryz.underlying5 [p.d.z0,p.d.z1,p.d.z2,p.d.z3,p.d.z4,p.d.z5,p.d.z6,p.d.z7] [q.d.z0,q.d.z1,q.d.z2,q.d.z3,q.d.z4,q.d.z5,q.d.z6,q.d.z7] _ (fun i hi=>by have:=List.mem_range.1 hi;simp;omega)).trans (by rw[Aj 8 _ _ rfl rfl])
end
section
open Go.RowKit
theorem partQ_data (W:World) (p:Pk):(part 33 #[.int .i64 p.at_,.int .i64 p.kind,.int .i64 p.from_,.int .u8 p.d.z0,.int .u8 p.d.z1,.int .u8 p.d.z2,.int .u8 p.d.z3,.int .u8 p.d.z4,.int .u8 p.d.z5,.int .u8 p.d.z6,.int .u8 p.d.z7] 3).run Tryz.prog W=.ok (.agg #[.int .u8 p.d.z0,.int .u8 p.d.z1,.int .u8 p.d.z2,.int .u8 p.d.z3,.int .u8 p.d.z4,.int .u8 p.d.z5,.int .u8 p.d.z6,.int .u8 p.d.z7]) W:=by
 simp[part,isAgg,run_underlying Tryz.underlying33,sizeOf,go_sem]
 rw[show Tryz.t33.size=8 by kernel_rfl]
 rfl
theorem partQ_at (W:World) (p:Pk):(part 3 #[.int .i64 p.at_,.int .i64 p.kind,.int .i64 p.from_,.int .u8 p.d.z0,.int .u8 p.d.z1,.int .u8 p.d.z2,.int .u8 p.d.z3,.int .u8 p.d.z4,.int .u8 p.d.z5,.int .u8 p.d.z6,.int .u8 p.d.z7] 0).run Tryz.prog W=.ok (.int .i64 p.at_) W:=by
 simp[part,isAgg,run_underlying Tryz.underlying3]
theorem partQ_kind (W:World) (p:Pk):(part 3 #[.int .i64 p.at_,.int .i64 p.kind,.int .i64 p.from_,.int .u8 p.d.z0,.int .u8 p.d.z1,.int .u8 p.d.z2,.int .u8 p.d.z3,.int .u8 p.d.z4,.int .u8 p.d.z5,.int .u8 p.d.z6,.int .u8 p.d.z7] 1).run Tryz.prog W=.ok (.int .i64 p.kind) W:=by
 simp[part,isAgg,run_underlying Tryz.underlying3]
theorem partQ_from (W:World) (p:Pk):(part 3 #[.int .i64 p.at_,.int .i64 p.kind,.int .i64 p.from_,.int .u8 p.d.z0,.int .u8 p.d.z1,.int .u8 p.d.z2,.int .u8 p.d.z3,.int .u8 p.d.z4,.int .u8 p.d.z5,.int .u8 p.d.z6,.int .u8 p.d.z7] 2).run Tryz.prog W=.ok (.int .i64 p.from_) W:=by
 simp[part,isAgg,run_underlying Tryz.underlying3]
def Pk.same (p q:Pk):Bool:=p.at_==q.at_ && (p.kind==q.kind && (p.from_==q.from_ && decide ([p.d.z0,p.d.z1,p.d.z2,p.d.z3,p.d.z4,p.d.z5,p.d.z6,p.d.z7]=[q.d.z0,q.d.z1,q.d.z2,q.d.z3,q.d.z4,q.d.z5,q.d.z6,q.d.z7])))
theorem Pk.same_iff (p q:Pk):Pk.same p q=true↔p=q:=by
 unfold Pk.same
 rw[Bool.and_eq_true,Bool.and_eq_true,Bool.and_eq_true,beq_iff_eq,beq_iff_eq,beq_iff_eq,decide_eq_true_iff,B8.eq_list]
 constructor
 ·rintro⟨h1,h2,h3,h4⟩
  cases p
  cases q
  simp_all
 ·rintro rfl
  exact⟨rfl,rfl,rfl,rfl⟩
end
section
open Go.RowKit
theorem Tryz.stoodDe:Tryz.prog.stoodInHeld 37=false:=by kernel_rfl
theorem equal_de (p q:Pk) (W:World) :
 (Op.equalIn 10000 37 (.agg #[.int .i64 p.at_,.int .i64 p.kind,.int .i64 p.from_,.int .u8 p.d.z0,.int .u8 p.d.z1,.int .u8 p.d.z2,.int .u8 p.d.z3,.int .u8 p.d.z4,.int .u8 p.d.z5,.int .u8 p.d.z6,.int .u8 p.d.z7]) (.agg #[.int .i64 q.at_,.int .i64 q.kind,.int .i64 q.from_,.int .u8 q.d.z0,.int .u8 q.d.z1,.int .u8 q.d.z2,.int .u8 q.d.z3,.int .u8 q.d.z4,.int .u8 q.d.z5,.int .u8 q.d.z6,.int .u8 q.d.z7])).run Tryz.prog W=.ok (Pk.same p q) W:=by
 rw[run_equalIn_struct W 9999 37 _ _ Tryz.underDe Tryz.stoodDe]
 have hf:=Tryz.fieldsDe
 obtain⟨f0,f1,f2,f3,hfs,g0,g1,g2,g3⟩:=tF hf
 simp only[Prod.mk.injEq] at g0 g1 g2 g3
 obtain⟨n0,t0,o0⟩:=g0
 obtain⟨n1,t1,o1⟩:=g1
 obtain⟨n2,t2,o2⟩:=g2
 obtain⟨n3,t3,o3⟩:=g3
 rw[hfs]
 clear hf hfs
 have h9:=equal_data ⟨0,p.d⟩ ⟨0,q.d⟩ W
 simp only[Op.eqFields,n0,t0,o0,n1,t1,o1,n2,t2,o2,n3,t3,o3,Sem.run_bind,Sem.run_ite,partQ_at,partQ_kind,partQ_from,partQ_data,Result.andThen_ok,run_equalIn_int W 9998 3 .i64 .i64 _ _ Tryz.underlying3,h9]
 unfold Pk.same
 cases hb:(p.at_==q.at_)
 ·simp
 ·cases hc:(p.kind==q.kind)
  ·simp
  ·cases hd:(p.from_==q.from_)
   ·simp
   ·cases he:decide ([p.d.z0,p.d.z1,p.d.z2,p.d.z3,p.d.z4,p.d.z5,p.d.z6,p.d.z7]=[q.d.z0,q.d.z1,q.d.z2,q.d.z3,q.d.z4,q.d.z5,q.d.z6,q.d.z7])
    ·simp
    ·simp
namespace Mx
def qt9q (x:De):Bool:=x.kind != 4 && (x.kind != 5 && (x.kind != 6 && (x.kind != 7 && (x.kind != 10 && x.kind != 9))))
theorem qt_not {x:De} (h:qt9q x=false):x.kind=4∨x.kind=5∨x.kind=6∨x.kind=7∨x.kind=10∨x.kind=9:=by
 unfold qt9q at h
 simp only[Bool.and_eq_false_iff,bne_eq_false_iff_eq] at h
 exact h
theorem seenBy_not {n:Nat} {st:List (List B8) × List B8} {x:De} (h:qt9q x=false):te n st x=st:=by
 have h9:=qt_not h
 unfold te doS doN
 rw[if_neg (by omega),if_neg (by omega),if_neg (by omega),if_neg (by omega)]
theorem seen_qt (n:Nat) (ds:List De):aU n (ds.filter qt9q)=aU n ds:=by
 unfold aU
 generalize ([List.replicate n zB],List.replicate n zB)=st
 induction ds generalizing st with
 | nil => rfl
 | cons x l ih =>
  cases hx:qt9q x
  ·rw[List.filter_cons_of_neg (by rw[hx];simp),List.foldl_cons,seenBy_not hx]
   exact ih st
  ·rw[List.filter_cons_of_pos hx,List.foldl_cons,List.foldl_cons]
   exact ih _
theorem qt_split {ds:List De} {i:Nat} {x:De} (h:ds[i]?=some x):ds=ds.take i++x::ds.drop (i+1):=by
 have hi:=(List.getElem?_eq_some_iff.1 h).1
 conv=>lhs;rw[←List.take_append_drop i ds,List.drop_eq_getElem_cons hi]
 rw[List.getElem?_eq_getElem hi] at h
 rw[Option.some.inj h]
theorem qt_take (ds:List De) (i:Nat):(ds.filter qt9q).take ((ds.take i).filter qt9q).length=(ds.take i).filter qt9q:=by
 conv=>lhs;arg 2;rw[←List.take_append_drop i ds,List.filter_append]
 exact List.take_left
theorem qt_at {ds:List De} {i:Nat} {x:De} (h:ds[i]?=some x) (hq:qt9q x=true):(ds.filter qt9q)[((ds.take i).filter qt9q).length]?=some x:=by
 have e:=congrArg (List.filter qt9q) (qt_split h)
 rw[List.filter_append,List.filter_cons_of_pos hq] at e
 rw[e,List.getElem?_append_right (Nat.le_refl _),Nat.sub_self]
 rfl
theorem qt_len {ds:List De} {i:Nat} {x:De} (h:ds[i]?=some x):((ds.take (i+1)).filter qt9q).length=((ds.take i).filter qt9q).length+(if qt9q x=true then 1 else 0):=by
 rw[List.take_add_one,h,List.filter_append,List.length_append]
 cases hx:qt9q x<;>simp[hx]
end Mx
theorem quiet_any (a:Option Addr) (m c:Nat) (ds:List De) (w:World) (hd:DL w a m ds) (hm:m≤1000) :
 Calls Tryz.prog 15 #[.slice a m c] w fun e w'=>∃ a' c',e=.returned (.slice a' (ds.filter Mx.qt9q).length c')∧Hid (DL w' a' (ds.filter Mx.qt9q).length (ds.filter Mx.qt9q))∧Hid (Below w.heap.size w w'):=by
 have HD:=aa hd
 clear hd
 go_enter Tryz.func15,Tryz.ntmps15
 go_wp2_with fail
 go_loopw [3,4] (fun vl t wr=>∃ k:Nat,t=.int .i64 (k:Int)∧k≤m∧Hid (kh wr w.heap.size vl ((ds.take k).filter Mx.qt9q)∧Below w.heap.size w wr)) (fun _ t _=>m-(intOf t).toNat)
 case atStart=>exact⟨0,rfl,Nat.zero_le _,⟨World.ownsRow_nil w w.heap.size 37 11,Below.refl _ _⟩⟩
 case round =>
  obtain⟨k,rfl,hk,HI⟩:=hrel
  by_cases hlt:k<m
  ·have hlti:(k:Int)<m:=by omega
   obtain⟨b,off,x,ha,hx,hok,hbl,x0,x1,x2,x3,x4,x5,x6,x7,x8,x9,x10⟩:=(HD.out.later HI.out.2 HD.out.av).at_ k hlt
   subst ha
   have HXK:=aa hx
   have hml:((ds.take k).filter Mx.qt9q).length≤1000000:=by
    have h9:=List.length_filter_le Mx.qt9q (ds.take k)
    rw[List.length_take] at h9
    omega
   have HML:=aa hml
   clear hx hok hml
   obtain⟨L,hL⟩:∃ L:List De,Hid (L=(ds.take k).filter Mx.qt9q):=⟨_,rfl⟩
   rw[←hL.out] at HI HML
   cases hq:Mx.qt9q x
   ·have HN:=aa (show(ds.take (k+1)).filter Mx.qt9q=L from by rw[List.take_add_one,HXK.out,List.filter_append,hL.out];simp[hq])
    have h9:=Mx.qt_not hq
    clear hq x1 x2 x3 x4 x5 x6 x7 x8 x9 x10
    rcases h9 with h9|h9|h9|h9|h9|h9
    all_goals
     rw[h9] at x0
     clear h9
     go_wp2_with fail
     go_roundw
     case rel=>exact⟨k+1,by go_num,by omega,by rw[HN.out];exact HI⟩
     case measure=>simp[intOf];omega
   ·have HN:=aa (show(ds.take (k+1)).filter Mx.qt9q=L++[x] from by rw[List.take_add_one,HXK.out,List.filter_append,hL.out];simp[hq])
    have hq2:=hq
    unfold Mx.qt9q at hq2
    simp only[Bool.and_eq_true] at hq2
    obtain⟨q1,q2,q3,q4,q5,q6⟩:=hq2
    have O1:=aa HI.out.1
    have B1:=aa HI.out.2
    have S1:=aa B1.out.size
    clear hq HI
    go_wp2_with (at_builtin;refine m5 rfl _ _ rfl w.heap.size L ?o1 x ?o2 ?o3 ?o4 ?_)
    case o1=>exact O1.out
    case o2=>rfl
    case o3=>exact HML.out
    case o4=>exact S1.out
    intro ad c2 w3 hown hgr
    have R3:=aa (show kh w3 w.heap.size (.slice (some ad) (L.length+1) c2) (L++[x])∧Below w.heap.size w w3 from⟨hown,B1.out.grown hgr S1.out (fun k hk=>(World.ownsRow.lt O1.out k hk).1)⟩)
    clear hown hgr x0 x1 x2 x3 x4 x5 x6 x7 x8 x9 x10
    go_wp2_with fail
    go_roundw
    case rel=>exact⟨k+1,by go_num,by omega,by rw[HN.out];exact R3⟩
    case measure=>simp[intOf];omega
  ·obtain rfl:k=m:=by omega
   have e1:ds.take k=ds:=List.take_of_length_le (by have:=HD.out.1;omega)
   rw[e1] at HI
   obtain⟨a',c',hv,g5,_⟩:=kh.dl HI.out.1 (fun x hx=>HD.out.2.1 x (List.mem_filter.1 hx).1)
   rw[hv]
   have H5:=aa g5
   have H4:=aa HI.out.2
   clear hv g5 HI e1
   go_wp2_with fail
   go_ret
   exact⟨a',c',rfl,H5,H4⟩
end
section
open Go.RowKit
theorem doE_loud {n:Nat} {x:De} (h:Mx.qt9q x=false):Mx.doE n x=0:=by
 have h9:=Mx.qt_not h
 unfold Mx.doE
 rw[if_neg (by omega),if_pos (by omega)]
theorem doD_loud {n:Nat} {now:List B8} {x:De} (h:Mx.qt9q x=false):Mx.doD n now x=zB:=by
 have h9:=Mx.qt_not h
 unfold Mx.doD
 rw[if_neg (by omega)]
theorem RL.hv {w:World} {a:Option Addr} {m n:Nat} {rs:List Rp} (h:RL w a m n rs) {i:Nat} {y:Rp} (hi:rs[i]?=some y):∃ b off,a=some ⟨b,off,none⟩∧∀ j u,(y.cs n)[j]?=some u→w.cell? ⟨b,off+i*13+j,none⟩=some u:=by
 have hl:=(List.getElem?_eq_some_iff.1 hi).1
 obtain⟨b,off,ha,_,hc⟩:=h.2.2 (by have:=h.1;omega)
 exact⟨b,off,ha,hc i y hi⟩
theorem DL.hv {w:World} {a:Option Addr} {m:Nat} {ds:List De} (h:DL w a m ds) {i:Nat} {x:De} (hi:ds[i]?=some x):∃ b off,a=some ⟨b,off,none⟩∧∀ j u,x.cs[j]?=some u→w.cell? ⟨b,off+i*11+j,none⟩=some u:=by
 have hl:=(List.getElem?_eq_some_iff.1 hi).1
 obtain⟨b,off,ha,_,hc⟩:=h.2.2 (by have:=h.1;omega)
 exact⟨b,off,ha,hc i x hi⟩
theorem told_both {n:Nat} {ds:List De} {rs rs2:List Rp} (h1:gL n ds rs) (h2:gL n (ds.filter Mx.qt9q) rs2) {i:Nat} {x:De} {y y2:Rp} (hx:ds[i]?=some x) (hq:Mx.qt9q x=true) (hy:rs[i]?=some y) (hy2:rs2[((ds.take i).filter Mx.qt9q).length]?=some y2):y2.e=y.e∧y2.d=y.d∧y2.hv=y.hv:=by
 have g1:=h1.1 i y hy
 have g2:=h2.1 _ y2 hy2
 have e0:=Mx.qt_at hx hq
 have e1:=Mx.qt_take ds i
 have e2:=Mx.qt_take ds (i+1)
 rw[Mx.qt_len hx,if_pos hq] at e2
 obtain⟨x1,a1,a2,a3⟩:=g1.x
 obtain⟨x2,b1,b2,b3⟩:=g2.x
 rw[hx] at a1
 cases a1
 rw[e0] at b1
 cases b1
 have l2:=g2.len
 rw[e2,Mx.seen_qt] at l2
 rw[e1,Mx.seen_qt] at b3
 have l1:=g1.len
 exact⟨b2.trans a2.symm,b3.trans a3.symm,by omega⟩
theorem tu9 {w v:World} {n m c kb c2 rc rc2:Nat} {a b ra rb:Option Addr} {ds:List De} {rs rs2:List Rp} (h3:m≤300) (h4:kb≤300) (HD:Hid (DL v a m ds)) (HE:Hid (DL v b kb (ds.filter Mx.qt9q))) (HA:Hid (RL v ra m n rs∧gL n ds rs)) (HF:Hid (RL v rb kb n rs2∧gL n (ds.filter Mx.qt9q) rs2)) (DW:Hid (Below w.heap.size w v)) {u0 u1 u2 u3 u4 u5 u6 u7 u8 u12 u14 u16 u17 u18 u19 u20 u21 u22 u23 u24 u25 u26 u27 u28 u29 u30 u31 u32 u33 u34 u35 u36 u37 u38 u39 u40 u41 u42 u43 u44 u45 u46 u47 u48 u49 u50 u51 u52 u53 u54 u55 u56 u57 u58 u59 u60 u61 u62 u63 u64 u65 u66 u67 u68 u69 u70 u71 u72 u73 u74 u75 u76 u77 u78 u79 u80 u81 u82 u83 u84 u85 u86 u87 u88 u89 u90 u91 u92 u93 u94 u95 u96 u97 u98 u99 u100 u101 u102 u103 u104 u105 u106 u107 u108 u109 u110 u111 u112 u113 u114 u115 u116 u117 u118 u119 u120 u121 u122 u123 u124 u125 u126 u127 u128 u129 u130 u131 u132 u133 u134 u135 u136 u137 u138 u139 u140 u141 u142:Value} :
 aB Tryz.f6 (fun e w'=>e=.returned (.bool true)∧Below w.heap.size w w') 9 ⟨#[u0,u1,u2,u3,u4,u5,u6,u7,u8,.slice a m c,.slice b kb c2,.slice ra m rc,u12,.slice rb kb rc2,u14,.int .i64 0,u16,u17,u18,u19,u20,u21,u22,u23,u24,u25,u26,u27,u28,u29,u30,u31,u32,u33,u34,u35,u36,u37,u38,u39,u40,u41,u42,u43,u44,u45,u46,u47,u48,u49,u50,u51,u52,u53,u54,u55,u56,u57,u58,u59,u60,u61,u62,u63,u64,u65,u66,u67,u68,u69,u70,u71,u72,u73,u74,u75,u76,u77,u78,u79,u80,u81,u82,u83,u84,u85,u86,u87,u88,u89,u90,u91,u92,u93,u94,u95,u96,u97,u98,u99,u100,u101,u102,u103,u104,u105,u106,u107,u108,u109,u110,u111,u112,u113,u114,u115,u116,u117,u118,u119,u120,u121,u122,u123,u124,u125,u126,u127,u128,u129,u130,u131,u132,u133,u134,u135,u136,u137,u138,u139,u140,u141,u142],[]⟩ v:=by
 refine aL (c:=.seq _ (.seq _ .ret)) rfl ?_
 go_upto_region 12 with fail
 go_loopw [15,16] (fun s15 s16 wr=>∃ i k:Nat,i≤m∧s16=.int .i64 (i:Int)∧s15=.int .i64 (k:Int)∧Hid (k=((ds.take i).filter Mx.qt9q).length∧Below v.heap.size v wr)) (fun _ t _=>m-(intOf t).toNat)
 case atStart=>exact⟨0,0,Nat.zero_le _,rfl,rfl,aa ⟨rfl,Below.refl _ _⟩⟩
 case round =>
  obtain⟨i,k,hi,rfl,rfl,hR⟩:=hrel
  by_cases hlt:i<m
  ·have hlti:(i:Int)<(m:Int):=by omega
   have HB:=aa hR.out.2
   have HK:=aa hR.out.1
   obtain⟨x,hx⟩:∃ x,ds[i]?=some x:=⟨_,List.getElem?_eq_getElem (by have:=HD.out.1;omega)⟩
   obtain⟨y,hy⟩:∃ y,rs[i]?=some y:=⟨_,List.getElem?_eq_getElem (by have:=HA.out.1.1;omega)⟩
   obtain⟨db9q,df,hda,hdc⟩:=(HD.out.later HB.out HD.out.av).hv hx
   obtain⟨rbk,rf,hra,hrc⟩:=(HA.out.1.later HB.out).hv hy
   subst hda
   subst hra
   have HX:=aa hx
   have HY:=aa hy
   have hlen:=Mx.qt_len hx
   have HLEN:=aa hlen
   clear hx hy hR hlen
   cases hq:Mx.qt9q x
   ·have he:y.e=0∧y.d=zB:=by
     obtain⟨x1,a1,a2,a3⟩:=(HA.out.2.1 i y HY.out).x
     rw[HX.out] at a1
     cases a1
     exact⟨a2.trans (doE_loud hq),a3.trans (doD_loud hq)⟩
    have HN:=aa (show k=((ds.take (i+1)).filter Mx.qt9q).length from by rw[HLEN.out,hq,HK.out];simp)
    have t0:=hrc 0 _ rfl
    have t1:=hrc 1 _ rfl
    have t2:=hrc 2 _ rfl
    have t3:=hrc 3 _ rfl
    have t4:=hrc 4 _ rfl
    have t5:=hrc 5 _ rfl
    have t6:=hrc 6 _ rfl
    have t7:=hrc 7 _ rfl
    have t8:=hrc 8 _ rfl
    rw[he.1] at t0
    rw[he.2] at t1 t2 t3 t4 t5 t6 t7 t8
    simp only[zB] at t1 t2 t3 t4 t5 t6 t7 t8
    rw[Nat.add_zero] at t0
    have qz:∀ W,(Op.equalIn 10000 33 (.agg #[.int .u8 0,.int .u8 0,.int .u8 0,.int .u8 0,.int .u8 0,.int .u8 0,.int .u8 0,.int .u8 0]) (.agg #[.int .u8 0,.int .u8 0,.int .u8 0,.int .u8 0,.int .u8 0,.int .u8 0,.int .u8 0,.int .u8 0])).run Tryz.prog W=.ok true W:=fun W=>by have h9:=AL zB W;simp only[zB] at h9;exact h9
    by_cases hkb:k<kb
    ·have hkbi:(k:Int)<(kb:Int):=by omega
     obtain⟨x2,hx2⟩:∃ x2,(ds.filter Mx.qt9q)[k]?=some x2:=⟨_,List.getElem?_eq_getElem (by have:=HE.out.1;omega)⟩
     have hq2:Mx.qt9q x2=true:=(List.mem_filter.1 (List.mem_of_getElem? hx2)).2
     have hne:x.kind≠x2.kind:=fun e=>by
      have h9:=Mx.qt_not hq
      unfold Mx.qt9q at hq2
      simp only[Bool.and_eq_true,bne_iff_ne,ne_eq] at hq2
      omega
     obtain⟨eb9q,ef9q,hea,hec⟩:=(HE.out.later HB.out HE.out.av).hv hx2
     subst hea
     obtain⟨kd,at_,fr,d⟩:=x
     obtain⟨kd2,at2,fr2,d2⟩:=x2
     have x0:=hdc 0 _ rfl
     have x1:=hdc 1 _ rfl
     have x2:=hdc 2 _ rfl
     have x3:=hdc 3 _ rfl
     have x4:=hdc 4 _ rfl
     have x5:=hdc 5 _ rfl
     have x6:=hdc 6 _ rfl
     have x7:=hdc 7 _ rfl
     have x8:=hdc 8 _ rfl
     have x9:=hdc 9 _ rfl
     have x10:=hdc 10 _ rfl
     rw[Nat.add_zero] at x0
     have z0:=hec 0 _ rfl
     have z1:=hec 1 _ rfl
     have z2:=hec 2 _ rfl
     have z3:=hec 3 _ rfl
     have z4:=hec 4 _ rfl
     have z5:=hec 5 _ rfl
     have z6:=hec 6 _ rfl
     have z7:=hec 7 _ rfl
     have z89q:=hec 8 _ rfl
     have z99q:=hec 9 _ rfl
     have z10:=hec 10 _ rfl
     rw[Nat.add_zero] at z0
     have qd:∀ W,(Op.equalIn 10000 37 (.agg #[.int .i64 kd,.int .i64 at_,.int .i64 fr,.int .u8 d.z0,.int .u8 d.z1,.int .u8 d.z2,.int .u8 d.z3,.int .u8 d.z4,.int .u8 d.z5,.int .u8 d.z6,.int .u8 d.z7]) (.agg #[.int .i64 kd2,.int .i64 at2,.int .i64 fr2,.int .u8 d2.z0,.int .u8 d2.z1,.int .u8 d2.z2,.int .u8 d2.z3,.int .u8 d2.z4,.int .u8 d2.z5,.int .u8 d2.z6,.int .u8 d2.z7])).run Tryz.prog W=.ok false W:=fun W=>by
      have h9:=equal_de ⟨kd,at_,fr,d⟩ ⟨kd2,at2,fr2,d2⟩ W
      rw[show Pk.same ⟨kd,at_,fr,d⟩ ⟨kd2,at2,fr2,d2⟩=false by
       cases hs:Pk.same ⟨kd,at_,fr,d⟩ ⟨kd2,at2,fr2,d2⟩
       ·rfl
       ·have h8:=(Pk.same_iff _ _).1 hs
        injection h8 with h7
        exact absurd h7 hne] at h9
      exact h9
     clear hdc hrc hec he hq hq2 hne hx2
     go_wp2_with fail
     go_quiet (fail)
     go_wp2_with fail
     go_roundw
     case rel=>exact⟨i+1,k,by omega,by go_num,rfl,aa ⟨HN.out,below_drewN HB.out _⟩⟩
     case measure=>simp[intOf];omega
    ·have hkbi:¬(k:Int)<(kb:Int):=by omega
     clear hdc hrc he hq
     go_wp2_with fail
     go_quiet (fail)
     go_wp2_with fail
     go_roundw
     case rel=>exact⟨i+1,k,by omega,by go_num,rfl,aa ⟨HN.out,below_drewN HB.out _⟩⟩
     case measure=>simp[intOf];omega
   ·have HN:=aa (show k+1=((ds.take (i+1)).filter Mx.qt9q).length from by rw[HLEN.out,hq,HK.out];simp)
    have hx2:=Mx.qt_at HX.out hq
    rw[←HK.out] at hx2
    have hkb:k<kb:=by have h9:=(List.getElem?_eq_some_iff.1 hx2).1;have h8:=HE.out.1;omega
    have hkbi:(k:Int)<(kb:Int):=by omega
    obtain⟨y2,hy2⟩:∃ y2,rs2[k]?=some y2:=⟨_,List.getElem?_eq_getElem (by have:=HF.out.1.1;omega)⟩
    have hb:=told_both HA.out.2 HF.out.2 HX.out hq HY.out (by rw[←HK.out];exact hy2)
    obtain⟨eb9q,ef9q,hea,hec⟩:=(HE.out.later HB.out HE.out.av).hv hx2
    subst hea
    obtain⟨sb,sf,hsa,hsc⟩:=(HF.out.1.later HB.out).hv hy2
    subst hsa
    obtain⟨kd,at_,fr,d⟩:=x
    have x0:=hdc 0 _ rfl
    have x1:=hdc 1 _ rfl
    have x2:=hdc 2 _ rfl
    have x3:=hdc 3 _ rfl
    have x4:=hdc 4 _ rfl
    have x5:=hdc 5 _ rfl
    have x6:=hdc 6 _ rfl
    have x7:=hdc 7 _ rfl
    have x8:=hdc 8 _ rfl
    have x9:=hdc 9 _ rfl
    have x10:=hdc 10 _ rfl
    rw[Nat.add_zero] at x0
    have z0:=hec 0 _ rfl
    have z1:=hec 1 _ rfl
    have z2:=hec 2 _ rfl
    have z3:=hec 3 _ rfl
    have z4:=hec 4 _ rfl
    have z5:=hec 5 _ rfl
    have z6:=hec 6 _ rfl
    have z7:=hec 7 _ rfl
    have z89q:=hec 8 _ rfl
    have z99q:=hec 9 _ rfl
    have z10:=hec 10 _ rfl
    rw[Nat.add_zero] at z0
    have t0:=hrc 0 _ rfl
    have t1:=hrc 1 _ rfl
    have t2:=hrc 2 _ rfl
    have t3:=hrc 3 _ rfl
    have t4:=hrc 4 _ rfl
    have t5:=hrc 5 _ rfl
    have t6:=hrc 6 _ rfl
    have t7:=hrc 7 _ rfl
    have t8:=hrc 8 _ rfl
    have t9:=hrc 9 _ rfl
    rw[Nat.add_zero] at t0
    have s0:=hsc 0 _ rfl
    have s1:=hsc 1 _ rfl
    have s2:=hsc 2 _ rfl
    have s3:=hsc 3 _ rfl
    have s4:=hsc 4 _ rfl
    have s5:=hsc 5 _ rfl
    have s6:=hsc 6 _ rfl
    have s7:=hsc 7 _ rfl
    have s8:=hsc 8 _ rfl
    have s9:=hsc 9 _ rfl
    rw[hb.1,Nat.add_zero] at s0
    rw[hb.2.1] at s1 s2 s3 s4 s5 s6 s7 s8
    rw[hb.2.2] at s9
    have qd:∀ W,(Op.equalIn 10000 37 (.agg #[.int .i64 kd,.int .i64 at_,.int .i64 fr,.int .u8 d.z0,.int .u8 d.z1,.int .u8 d.z2,.int .u8 d.z3,.int .u8 d.z4,.int .u8 d.z5,.int .u8 d.z6,.int .u8 d.z7]) (.agg #[.int .i64 kd,.int .i64 at_,.int .i64 fr,.int .u8 d.z0,.int .u8 d.z1,.int .u8 d.z2,.int .u8 d.z3,.int .u8 d.z4,.int .u8 d.z5,.int .u8 d.z6,.int .u8 d.z7])).run Tryz.prog W=.ok true W:=fun W=>by
     have h9:=equal_de ⟨kd,at_,fr,d⟩ ⟨kd,at_,fr,d⟩ W
     rw[(Pk.same_iff _ _).2 rfl] at h9
     exact h9
    have qz:∀ W,(Op.equalIn 10000 33 (.agg #[.int .u8 y.d.z0,.int .u8 y.d.z1,.int .u8 y.d.z2,.int .u8 y.d.z3,.int .u8 y.d.z4,.int .u8 y.d.z5,.int .u8 y.d.z6,.int .u8 y.d.z7]) (.agg #[.int .u8 y.d.z0,.int .u8 y.d.z1,.int .u8 y.d.z2,.int .u8 y.d.z3,.int .u8 y.d.z4,.int .u8 y.d.z5,.int .u8 y.d.z6,.int .u8 y.d.z7])).run Tryz.prog W=.ok true W:=fun W=>by rw[eZ];simp
    have qe:(y.e != y.e)=false:=by simp
    clear hdc hrc hec hsc hb hx2 hy2 hq
    go_wp2_with fail
    go_quiet (fail)
    go_wp2_with fail
    go_quiet (fail)
    go_wp2_with fail
    go_roundw
    case rel=>exact⟨i+1,k+1,by omega,by go_num,by go_num,aa ⟨HN.out,below_drewN HB.out _⟩⟩
    case measure=>simp[intOf];omega
  ·obtain rfl:i=m:=by omega
   have hk:k=kb:=by
    have h9:=hR.out.1
    rw[List.take_of_length_le (by have:=HD.out.1;omega)] at h9
    rw[h9,HE.out.1]
   subst hk
   have FF:=aa (show Below w.heap.size w wr from DW.out.trans (hR.out.2.mono DW.out.size))
   go_wp2_with fail
   exact bodyPost_ret (v:=.bool true) (by simp[results,Tryz.results6,go_sem]) rfl ⟨rfl,FF.out⟩
theorem tunseen_any (a:Option Addr) (n c:Nat) (l:List Int) (x1 x2 x3:Int) (w:World) (hl:ay w a n l) (hb:I64 l) (h1:mC x1) (h2:mC x2) (h3:mC x3) (hg:Hnd w) :
 Calls Tryz.prog 6 #[.slice a n c,.int .i64 x1,.int .i64 x2,.int .i64 x3] w (fun e w'=>e=.returned (.bool true)∧Below w.heap.size w w'):=by
 by_cases h:128<n
 ·have h9:(128:Int)<n:=by omega
  clear hg
  go_enter Tryz.func6,Tryz.ntmps6
  go_wp2
  go_ret
  exact⟨rfl,Below.refl _ _⟩
 obtain⟨N,hN1,hN2,hN⟩:∃ N:Nat,1≤N∧N≤32∧Hid (1+Mx.pick x1 32=(N:Int)):=⟨(1+Mx.pick x1 32).toNat,by have:=Mx.cH x1 32 (by omega);omega,by have:=Mx.cH x1 32 (by omega);omega,by unfold Hid;have:=Mx.cH x1 32 (by omega);omega⟩
 obtain⟨A,hA1,hA⟩:∃ A:Nat,A≤1000∧Hid (Mx.pick x2 1000=(A:Int)):=⟨(Mx.pick x2 1000).toNat,by have:=Mx.cH x2 1000 (by omega);omega,by unfold Hid;have:=Mx.cH x2 1000 (by omega);omega⟩
 obtain⟨M,hM1,hM⟩:∃ M:Nat,M≤300∧Hid (Mx.pick x3 150=(M:Int)):=⟨(Mx.pick x3 150).toNat,by have:=Mx.cH x3 150 (by omega);omega,by unfold Hid;have:=Mx.cH x3 150 (by omega);omega⟩
 have H1:=aa h1
 have H2:=aa h2
 have H3:=aa h3
 have hnb:¬(128:Int)<n:=by omega
 clear h1 h2 h3
 have HLI:=aa (And.intro hl hb)
 have HN:=aa hg
 clear hl hb hg
 go_enter Tryz.func6,Tryz.ntmps6
 change aB Tryz.f6 (fun e w'=>e=.returned (.bool true)∧Below w.heap.size w w') 0 _ w
 refine aj rfl ?_
 intro K0 hK0
 go_wp2_with fail
 refine Met.intro (aj rfl ?_)
 intro K1 hK1
 go_wp2_with fail
 refine Met.intro (aj rfl ?_)
 intro K2 hK2
 go_wp2_with fail
 refine(fo x1 32 w H1.out.1 H1.out.2 (by omega) (by omega)).mono ?_
 rintro e w1 ⟨rfl,rfl⟩
 obtain⟨Q,hQ⟩:∃ Q:Int,Hid (Q=Mx.pick x1 32):=⟨_,rfl⟩
 rw[←hQ.out] at hN ⊢
 have hQN:1+Q=(N:Int):=hN.out
 go_wp2_with fail
 refine Met.intro (aj rfl ?_)
 intro K3 hK3
 go_wp2_with fail
 refine(fo x2 1000 w1 H2.out.1 H2.out.2 (by omega) (by omega)).mono ?_
 rintro e w2 ⟨rfl,rfl⟩
 rw[hA.out]
 go_wp2_with fail
 refine(fo x3 150 w2 H3.out.1 H3.out.2 (by omega) (by omega)).mono ?_
 rintro e w3 ⟨rfl,rfl⟩
 rw[hM.out]
 go_wp2_with fail
 refine(j7 a n c l A M N w3 HLI.out.1 HLI.out.2 (by omega) (by omega) (by omega) hN1 (by omega)).mono ?_
 rintro e w4 ⟨a4,c4,ds,rfl,D4,_,B4⟩
 clear hQN
 go_wp2_with fail
 refine Met.intro (aj rfl ?_)
 intro K4 hK4
 go_wp2_with fail
 refine(quiet_any a4 M c4 ds w4 D4.out (by omega)).mono ?_
 rintro e w5 ⟨b5,c5,rfl,E5,D5⟩
 have hkb:(ds.filter Mx.qt9q).length≤300:=by have h9:=List.length_filter_le Mx.qt9q ds;have h8:=D4.out.1;omega
 obtain⟨kb,hkbe⟩:∃ kb:Nat,Hid (kb=(ds.filter Mx.qt9q).length):=⟨_,rfl⟩
 rw[←hkbe.out] at hkb E5 ⊢
 have HS5:=aa (D4.out.later D5.out D4.out.av)
 have F5:=aa (show Below w3.heap.size w3 w5 from B4.out.trans (D5.out.mono B4.out.size))
 go_wp2_with fail
 refine Met.intro (aj rfl ?_)
 intro K5 hK5
 go_wp2_with fail
 refine(zT N a4 M c4 ds w5 hN1 hN2 hM1 HS5.out (HN.out.later F5.out HN.out.lt)).mono ?_
 rintro e w6 ⟨ra,rc,rs,rfl,R6,D6⟩
 have E6:=aa (E5.out.later D6.out E5.out.av)
 have F6:=aa (show Below w3.heap.size w3 w6 from F5.out.trans (D6.out.mono F5.out.size))
 go_wp2_with fail
 refine Met.intro (aj rfl ?_)
 intro K6 hK6
 go_wp2_with fail
 refine(zT N b5 kb c5 (ds.filter Mx.qt9q) w6 hN1 hN2 hkb E6.out (HN.out.later F6.out HN.out.lt)).mono ?_
 rintro e w7 ⟨rb,rc2,rs2,rfl,R7,D7⟩
 have hd7:=aa ((HS5.out.later D6.out HS5.out.av))
 have HD7:=aa (hd7.out.later D7.out hd7.out.av)
 have HE7:=aa (E6.out.later D7.out E6.out.av)
 have HA7:=aa (And.intro (R6.out.1.later D7.out) R6.out.2)
 have F7:=aa (show Below w3.heap.size w3 w7 from F6.out.trans (D7.out.mono F6.out.size))
 go_wp2_with fail
 refine Met.intro (aj rfl ?_)
 intro K7 hK7
 go_wp2_with fail
 refine Met.intro (aj rfl ?_)
 intro K8 hK8
 go_wp2_with fail
 exact Met.intro (tu9 hM1 hkb HD7 HE7 HA7 R7 F7)
end
end Go.Proofs.YtbicgjafjjihdaaGreatDoor
