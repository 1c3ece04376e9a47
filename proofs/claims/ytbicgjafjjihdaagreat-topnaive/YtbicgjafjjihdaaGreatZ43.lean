/- Part. -/
import Derived.Test.YtbicgjafjjihdaaGreatZ34
import Derived.Test.YtbicgjafjjihdaaGreatZ37
import Derived.Test.YtbicgjafjjihdaaGreatZ42
set_option maxHeartbeats 16000000
set_option maxRecDepth 100000
namespace Go.Proofs.YtbicgjafjjihdaaGreat
open Go.RowKit
section
variable {k:Nat}
namespace Mx
theorem we {qs:List Pk} {q:Pk} (h:qs[k]?=some q) (h3:q.kind=3):bJ (qs.take (k+1))=bJ (qs.take k)++[q.d]:=by
 unfold bJ;rw[List.take_add_one,h,List.filter_append,List.map_append];simp[h3]
theorem wg {qs:List Pk} {q:Pk} (h:qs[k]?=some q) (h3:¬q.kind=3):bJ (qs.take (k+1))=bJ (qs.take k):=by
 unfold bJ;rw[List.take_add_one,h,List.filter_append,List.map_append];simp[h3]
theorem AI {qs:List Pk} {q:Pk} {f t:Int} (h:qs[k]?=some q):f::t::(qs.take (k+1)).map cV=(f::t::(qs.take k).map cV)++[cV q]:=by
 rw[List.take_add_one,h,List.map_append];simp
theorem pN (qs:List Pk) (k:Nat):(bJ (qs.take k)).length≤k:=by
 unfold bJ;rw[List.length_map];exact FM (List.length_filter_le _ _) (by rw[FI];omega)
end Mx
theorem mm3 {Q:Exit→Act→World→Prop} {w W:World} {frm to_:Int} {qa na:Option Addr} {qn qc nc:Nat} {qs:List Pk} (HQ:Hid (QL w qa qn qs)) (HW:Hid (∀ q∈qs,Mx.QW q)) (hqn:qn≤1000) (XW:Hid (Bx W w.heap.size #[.int .i64 frm,.int .i64 to_,.slice qa qn qc] 183)) (IW:Hid (aX W w.heap.size (.slice na 2 nc) [frm,to_])) (FW:Hid (Below w.heap.size w W)) {u5 u6 u7 u8 u9 u10 u11 u12 u13 u14 u15 u16 u17 u18 u19 u20 u21 u22 u23 u24 u25 u26 u27 u28 u29 u30 u31 u32 u33 u34 u35 u36 u37 u38 u39 u40 u41 u42 u43 u44 u45 u46 u47 u48 u49 u50 u51 u52 u53 u54 u55 u56 u57 u58 u59 u60 u61 u62 u63 u64:Value}
 (hQ:∀ (V:World) (na:Option Addr) (nn nc:Nat) (ba:Option Addr) (bn bc:Nat) {v0 v5 v6 v7 v8 v9 v10 v11 v12 v13 v14 v15 v16 v17 v18 v19 v20 v21 v22 v23 v24 v25 v26 v27 v28 v29 v30 v31 v32 v33 v34 v35 v36 v37 v38 v39 v40 v41 v42 v43 v44 v45 v46 v47 v48 v49 v50 v51 v52 v53 v54 v55 v56 v57 v58 v59 v60 v61 v62 v63 v64:Value},Hid (aX V w.heap.size (.slice na nn nc) (frm::to_::qs.map Mx.cV))→Hid (au V w.heap.size (.slice ba bn bc) (Mx.bJ qs))→nn=qn+2→bn≤qn→Hid (Below w.heap.size w V)→fe (Tryz.f105.body.getD .skip) Q 4 ⟨#[v0,.pointer (some ⟨w.heap.size,0,none⟩),.slice none 0 0,.slice na nn nc,.slice ba bn bc,v5,v6,v7,v8,v9,v10,v11,v12,v13,v14,v15,v16,v17,v18,v19,v20,v21,v22,v23,v24,v25,v26,v27,v28,v29,v30,v31,v32,v33,v34,v35,v36,v37,v38,v39,v40,v41,v42,v43,v44,v45,v46,v47,v48,v49,v50,v51,v52,v53,v54,v55,v56,v57,v58,v59,v60,v61,v62,v63,v64],[]⟩ V) :
 fe (Tryz.f105.body.getD .skip) Q 3 ⟨#[.agg #[.int .i64 frm,.int .i64 to_,.slice qa qn qc],.pointer (some ⟨w.heap.size,0,none⟩),.slice none 0 0,.slice na 2 nc,.slice none 0 0,u5,u6,u7,u8,u9,u10,u11,u12,u13,u14,u15,u16,u17,u18,u19,u20,u21,u22,u23,u24,u25,u26,u27,u28,u29,u30,u31,u32,u33,u34,u35,u36,u37,u38,u39,u40,u41,u42,u43,u44,u45,u46,u47,u48,u49,u50,u51,u52,u53,u54,u55,u56,u57,u58,u59,u60,u61,u62,u63,u64],[]⟩ W:=by
 refine cS rfl ?_;intro K hK;obtain⟨x0,x1,x2⟩:=XW.o.three;have HN:=aa HQ.o.1;go_upto_region 4 with fail
 go_loopw [3,4,18] (fun s3 s4 t wr=>∃ (k:Nat) (na:Option Addr) (nn nc:Nat) (ba:Option Addr) (bn bc:Nat),k≤qn∧t=.int .i64 (k:Int)∧s3=.slice na nn nc∧s4=.slice ba bn bc∧Hid (nn=k+2)∧Hid (bn=(Mx.bJ (qs.take k)).length)∧Hid (aX wr w.heap.size (.slice na nn nc) (frm::to_::(qs.take k).map Mx.cV))∧Hid (au wr w.heap.size (.slice ba bn bc) (Mx.bJ (qs.take k)))∧Hid (Below w.heap.size w wr)) (fun _ _ t _=>qn-(intOf t).toNat)
 case atStart=>exact⟨0,na,2,nc,none,0,0,Nat.zero_le _,rfl,rfl,rfl,aa rfl,aa rfl,IW,aa (World.ownsRow_nil _ _ _ _),FW⟩
 case round =>
  obtain⟨k,na,nn,nc,ba,bn,bc,hk,rfl,rfl,rfl,hnn,hbn,hI,hB,hF⟩:=hrel;by_cases hlt:k<qn
  ·have hlti:(k:Int)<(qn:Int):=by omega
   obtain⟨b,off,q,hab,hblt,hx,c0,c1,c2,c3,c4,c5,c6,c7,c8,c9,c10⟩:=(HQ.o.later hF.o).at_ k hlt;subst hab;have HX:=aa hx;have hqw:=HW.o _ (FN hx);obtain⟨qat,qk,qf,qd⟩:=q;obtain⟨q1,q2,q3,q4,q5,q6,_⟩:=hqw;dsimp only at c0 c1 c2 c3 c4 c5 c6 c7 c8 c9 c10 q1 q2 q3 q4 q5 q6;clear hx;obtain⟨W4,hW4⟩:∃ W4:World,Hid (W4=wr.alloc (.cells #[.int .i64 qat,.int .i64 qk,.int .i64 qf,.int .u8 qd.z0,.int .u8 qd.z1,.int .u8 qd.z2,.int .u8 qd.z3,.int .u8 qd.z4,.int .u8 qd.z5,.int .u8 qd.z6,.int .u8 qd.z7] 215)):=⟨_,rfl⟩
   have X4:=bxA hW4;have D4:=beA hW4;have I4:=aa (show aX W4 w.heap.size (.slice na nn nc) (frm::to_::(qs.take k).map Mx.cV) by rw[hW4.o];exact World.ownsRow.alloc hI.o _);have B4:=aa (show au W4 w.heap.size (.slice ba bn bc) (Mx.bJ (qs.take k)) by rw[hW4.o];exact World.ownsRow.alloc hB.o _);have F4:=aa (show Below w.heap.size w W4 from hF.o.trans (D4.o.mono hF.o.size));obtain⟨ns,hns⟩:∃ ns:List Int,Hid (ns=frm::to_::(qs.take k).map Mx.cV):=⟨_,rfl⟩
   obtain⟨lb,hlb⟩:∃ lb:List B8,Hid (lb=Mx.bJ (qs.take k)):=⟨_,rfl⟩
   rw[←hns.o] at I4;rw[←hlb.o] at B4 hbn;have hLn:=aa (show nn=ns.length by rw[hns.o,hnn.o];simp;have:=HN.o;omega);have hl1:ns.length≤1002:=by have h9:=hLn.o;have h8:=hnn.o;omega
   have hl2:lb.length≤1000:=by have h9:=Mx.pN qs k;rw[←hlb.o] at h9;omega
   clear hI hB;go_upto_region 6 with fail
   rw[←hW4.o];clear c0 c1 c2 c3 c4 c5 c6 c7 c8 c9 c10;obtain⟨p0,p1,p2,p3,p4,p5,p6,p7,p8,p9,p10⟩:=oH X4.o;clear p3 p4 p5 p6 p7 p8 p9 p10;go_wp2_with (at_builtin;refine iq rfl _ _ rfl w.heap.size ns ?o1 ((qat*4+qk)*32+qf) ?o2 ?o3 ?o4 ?_);case o1=>exact I4.o
   case o3=>omega
   case o4=>exact F4.o.size
   intro ad cc w7 hown hgr;have I7:=aa hown;have G7:=aa (show W4.grownBy w7 (Value.slice na nn nc).ownBlock from hgr);clear hown hgr;have X7:=aa (X4.o.grow G7.o (fun e=>aZ I4.o X4.o (by decide) e.symm));have B7:=aa (show au w7 w.heap.size (.slice ba bn bc) lb from kF B4.o I4.o (by decide) G7.o);have F7:=aa (show Below w.heap.size w w7 from F4.o.grown G7.o F4.o.size (fun k hk=>(World.ownsRow.lt I4.o k hk).1));obtain⟨L,hL⟩:∃ L:Nat,Hid (L=ns.length+1):=⟨_,rfl⟩
   rw[←hL.o] at I7 ⊢;have HE:=aa (Mx.AI (f:=frm) (t:=to_) HX.o);clear p0 p1 p2;obtain⟨p0,p1,p2,p3,p4,p5,p6,p7,p8,p9,p10⟩:=oH X7.o;clear p0 p2;by_cases h3:qk=3
   ·have HL:=aa (Mx.we HX.o h3)
    subst h3;go_wp2_with (at_builtin;refine im rfl _ _ rfl w.heap.size lb ?zb1 qd ?zb2 ?zb3 ?zb4 ?_);case zb1=>exact B7.o
    case zb3=>omega
    case zb4=>exact F7.o.size
    intro g8 c8 w8 _ _ hown hgr;have B8:=aa hown;have G8:=aa (show w7.grownBy w8 (Value.slice ba bn bc).ownBlock from hgr);clear hown hgr;have I8:=aa (show aX w8 w.heap.size (.slice (some ad) L cc) (ns++[(qat*4+3)*32+qf]) from kF I7.o B7.o (by decide) G8.o);have F8:=aa (show Below w.heap.size w w8 from F7.o.grown G8.o F7.o.size (fun k hk=>(World.ownsRow.lt B7.o k hk).1));obtain⟨M,hM⟩:∃ M:Nat,Hid (M=lb.length+1):=⟨_,rfl⟩
    rw[←hM.o] at B8 ⊢;clear p1 p3 p4 p5 p6 p7 p8 p9 p10;go_wp2_with fail;go_roundw
    case rel=>exact⟨k+1,some ad,L,cc,some ⟨g8,0,none⟩,M,c8,by omega,by go_num,rfl,rfl,aa (by rw[hL.o,←hLn.o,hnn.o]),aa (by rw[hM.o,HL.o,←hlb.o];simp),aa (by rw[HE.o,←hns.o];exact I8.o),aa (by rw[HL.o,←hlb.o];exact B8.o),F8⟩
    case measure=>simp[intOf];omega
   ·have HL:=aa (Mx.wg HX.o h3)
    have h3d:(qk==3)=false:=by simpa using h3
    go_wp2_with fail;go_roundw
    case rel=>exact⟨k+1,some ad,L,cc,ba,bn,bc,by omega,by go_num,rfl,rfl,aa (by rw[hL.o,←hLn.o,hnn.o]),aa (by rw[HL.o,←hlb.o];exact hbn.o),aa (by rw[HE.o,←hns.o];exact I7.o),aa (by rw[HL.o,←hlb.o];exact B7.o),F7⟩
    case measure=>simp[intOf];omega
  ·have hkq:k=qn:=by omega
   subst hkq;have HT:=aa (show qs.take k=qs from FH (by have:=HN.o;omega));rw[HT.o] at hI hB hbn;go_wp2_with fail;exact Met.intro (hQ wr na nn nc ba bn bc hI hB hnn.o (by rw[hbn.o];have h9:=Mx.pN qs k;rw[HT.o] at h9;exact h9) hF)
end
end Go.Proofs.YtbicgjafjjihdaaGreat
