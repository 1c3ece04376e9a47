/- Part. -/
import Derived.Deep.RegionHeld3
import Derived.Test.YtbicgjafjjihdaaGreatDoorZ10
set_option maxHeartbeats 16000000
set_option maxRecDepth 100000
namespace Go.Proofs.YtbicgjafjjihdaaGreatDoor
open Go.RowKit
section
variable {w:World} {n c g:Nat}
theorem au.qZ {base:Nat} {a:Option Addr} {l:List B8} (h:au w base (.slice a n c) l):BL w a n l:=by
 obtain⟨a',c',hv,hb,_⟩:=h.bl;simp only[Value.slice.injEq] at hv;obtain⟨rfl,rfl,rfl⟩:=hv;exact hb
theorem qV {P:Program} {ops:Array Oper} {o:Oper} {a:Act} {K:Act→World→Prop} {Q:Exit→Act→World→Prop} {E:Prop} (hgd:o.guard=none) (d s:Operand) (dT sT:TypeId)
 (ho:o.op=.call {callee:=.builtin .copy,args:=#[d,s],argTypes:=#[dT,sT]}) (elem:TypeId) (hu:P.underlying dT=some (.slice elem)) (hsz:(P.info? elem).map (·.size)=some 1)
 (dLen dCap sLen sCap g off:Nat) (ad:Addr) (hd:a.eval d=.slice (some ⟨g,off,none⟩) dLen dCap) (hs:a.eval s=.slice (some ad) sLen sCap)
 (cur:List Value) (t:TypeId) (hg:w.heap[g]?=some (.cells cur.toArray t (0,0))) (cs:List Value) (hn:cs.length=Nat.min sLen dLen)
 (hsrc:∀ j v,cs[j]?=some v→w.cell? (ad.add j)=some v)
 (hfit:off+cs.length≤cur.length) (h1:∀ v∈cs,v.oneCell'=true)
 (h:∀ w',w'.heap[g]?=some (.cells (splice cur off cs).toArray t (0,0))→w.grownBy w' (some g)→K (a.put o.dst (goInt cs.length)) w') :
 if Region.wanted o (yielded ops a.tmps)=true then Oper.wp P o a w K Q else E:=by
 have hw:Region.wanted o (yielded ops a.tmps)=true:=by simp[Region.wanted,hgd]
 rw[if_pos hw];have hrun:=run_copy_row (P:=P) w dT sT o.type elem g off dLen dCap ad sLen sCap cur.toArray t cs hu hsz hg hn hsrc (by simpa using hfit) h1;unfold Oper.wp;simp[execOp,ho,resolve,invoke,builtin,hd,hs,hrun,Result.andThen];refine h _ (by simpa [splice] using setRow_heap w g _ _ t _ hg) ⟨rfl,rfl,rfl,by simp[World.setRow],fun k _ hne=>setRow_other w g k _ (fun e=>hne (by rw[e]))⟩
theorem Bx.Cs {cs:Array Value} {t:TypeId} (h:Bx w g cs t):Bx w.drew g cs t:=h
theorem cK.spliced {w1 wr w':World} {gn:Nat} {s2:Value} {ls ls':List B8} (h:cK w1 wr gn (.slice (some ⟨g,0,none⟩) n c) s2 ls) (hg:wr.grownBy w' (some g)) (ho:au w' w1.heap.size (.slice (some ⟨g,0,none⟩) n c) ls'):cK w1 w' gn (.slice (some ⟨g,0,none⟩) n c) s2 ls':=by
 have n1:=aX h.2.1 h.1 (by decide);have hgb:=(World.ownsRow.lt h.2.1 g rfl).1;refine⟨(hg.block gn h.1.lt (fun e=>n1 (by rw[e];rfl))).trans h.1,ho,h.2.2.1.grown hg h.2.2.1.size (fun k hk=>?_),h.2.2.2⟩;cases hk
 exact hgb
theorem cK.alloc {w1 wr:World} {gn:Nat} {v s2:Value} {ls:List B8} (h:cK w1 wr gn v s2 ls) (o:Obj):cK w1 (wr.alloc o) gn v s2 ls :=
 ⟨h.1.alloc o,World.ownsRow.alloc h.2.1 o,h.2.2.1.alloc h.2.2.1.size o,h.2.2.2⟩
theorem cK.drew {w1 wr:World} {gn:Nat} {v s2:Value} {ls:List B8} (h:cK w1 wr gn v s2 ls):cK w1 wr.drew gn v s2 ls :=
 ⟨Bx.Cs h.1,World.ownsRow.drew h.2.1,h.2.2.1.drew,h.2.2.2⟩
theorem EB (x:B8) (k:Nat):∀ v∈x.cs.take k,v.oneCell'=true:=fun v hv=>js (l:=[x]) v (by simpa [aT] using List.mem_of_mem_take hv)
theorem xU (sa pa ba:Option Addr) (n sc m pc nb bc:Nat) (left:Int) (ls:List B8) (ps:List Pt) (bs:List Int) (w:World) (hs:BL w sa n ls) (hp:PL w pa m ps) (hi:ay w ba nb bs) (hbd:∀ z∈bs,-9223372036854775808≤z∧z≤9223372036854775807) (hm:Mx.cC n ps=0) :
 Calls Tryz.prog 54 #[.agg #[.slice sa n sc,.slice pa m pc,.int .i64 left],.slice ba nb bc] w fun e w' =>
  ∃ a1 c1,e=.returned (.tuple #[.agg #[.slice a1 n c1,.slice none 0 0,.int .i64 (-1)],.nilIface])∧Hid (BL w' a1 n (Mx.ny ls ps bs))∧Hid (Gq w w'):=by
 have HM:=aa hm;have HS:=aa hs;have HP:=aa hp;have HI:=aa hi;have HBD:=aa hbd;have HNN:=aa (show n≤maxLen from hs.2.2.1);obtain⟨hn0,hn1,hm8,HIN⟩:1≤n∧n≤200∧m≤800∧Hid (∀ p∈ps,0≤p.at_∧p.at_<n):=by
  obtain⟨h1,h2,h3,h4⟩:=Mx.ix hm;exact⟨h1,h2,by rw[←hp.1];exact h3,h4⟩
 have hnb:nb≤9223372036854775807:=by have:=hi.2.1;unfold maxLen at this;omega
 have HLS:=aa hs.1;have HPS:=aa hp.1;have HIS:=aa hi.1;clear hs hp hi hbd hm;go_enter Tryz.func54,Tryz.ntmps54;go_wp2_with fail;refine(gm sa pa n sc m pc left ps _ (HP.o.later ((af _ _).alloc (by simp) _)) HNN.o).mono ?_;rintro e w1 ⟨rfl,hb1⟩;rw[HM.o,aG];have HBX:=aa (show Bx w1 w.heap.size #[.slice sa n sc,.slice pa m pc,.int .i64 left] 130 from((Bx.new w _ 130).alloc _).later hb1 (by simp;omega));have HBR:=aa (show Bx w1 (w.heap.size+1) #[.slice none 0 0,.slice none 0 0,.int .i64 0] 130 from by
  have h:=(Bx.new (w.alloc (.cells #[.slice sa n sc,.slice pa m pc,.int .i64 left] 130)) #[.slice none 0 0,.slice none 0 0,.int .i64 0] 130).later hb1 (by simp);rw[World.size_alloc] at h;exact h)
 have HBel:=aa (((af w (.cells #[.slice sa n sc,.slice pa m pc,.int .i64 left] 130)).alloc (by simp) _).trans (hb1.mono (by simp;omega)));have hsz:w.heap.size+2≤w1.heap.size:=by have:=hb1.size;simp at this;omega
 clear hb1;have HS1:=aa (HS.o.later HBel.o);have HP1:=aa (HP.o.later HBel.o);have HI1:=aa (HI.o.later HBel.o);obtain⟨f0,f1,f2⟩:=HBX.o.three;have hg1:w.heap.size<w1.heap.size:=by omega
 go_wp2_with fail;refine(iv sa n sc ls w1 HS1.o (by omega)).mono ?_;rintro e wB ⟨v,rfl,hoB,hbB⟩;obtain⟨a1,c1,hv,_,_⟩:=hoB.bl;rw[HLS.o] at hv;subst hv;obtain⟨g,rfl,hg,hgl,hgn,_⟩:=hoB.form (by omega);clear hgn;have HOB:=aa hoB;have HBB:=aa hbB;clear hoB hbB f0 f1 f2;have HXB:=aa (HBX.o.later HBB.o (by omega));obtain⟨f0,f1,f2⟩:=HXB.o.three;have hXB:=HXB.o.lt;obtain⟨gn,hgn⟩:∃ gn,Hid (gn=wB.heap.size):=⟨_,rfl⟩
 obtain⟨w2,hw2⟩:∃ w2:World,Hid (w2=wB.alloc (.cells #[.slice (some ⟨g,0,none⟩) n c1,.slice none 0 0,.int .i64 (-1)] 130)):=⟨_,rfl⟩
 have HM2:=aa (show cK w1 w2 gn (.slice (some ⟨g,0,none⟩) n c1) (.int .i64 (-1)) ls by rw[hw2.o,hgn.o];exact⟨Bx.new _ _ _,World.ownsRow.alloc HOB.o _,HBB.o.alloc HBB.o.size _,HBB.o.size⟩);go_wp2_with fail;rw[←hw2.o,←hgn.o];clear f0 f1 f2 hXB;go_loopw [23] (fun i wr=>∃ k:Nat,k≤m∧k≤nb∧i=.int .i64 k∧Hid (cK w1 wr gn (.slice (some ⟨g,0,none⟩) n c1) (.int .i64 (-1)) (Mx.eW ls ps bs k))) (fun i _=>m-(intOf i).toNat)
 case atStart=>exact⟨0,by omega,by omega,rfl,HM2⟩
 case round =>
  obtain⟨k,hk,hkb,rfl,hmk⟩:=hrel;have Xwr:=aa (HBX.o.later hmk.o.2.2.1 (by omega));by_cases hlt:k<m
  ·obtain⟨b,off,p,hpa,hb,hx,e0,e1,e2,e3,e4,e5,e6,e7,e8⟩:=(HP1.o.later hmk.o.2.2.1).at_ k hlt
   subst hpa;have hin:=HIN.o p (Gp hx);obtain⟨j,hj⟩:=Int.eq_ofNat_of_zero_le hin.1;have HX:=aa hx;have HJ:=aa hj;rw[hj] at e0 hin;clear hx hj;have hjn:(j:Int)<n:=hin.2;obtain⟨w3,hw3⟩:∃ w3:World,Hid (w3=wr.alloc (.cells #[.int .i64 j,.int .u8 p.d.z0,.int .u8 p.d.z1,.int .u8 p.d.z2,.int .u8 p.d.z3,.int .u8 p.d.z4,.int .u8 p.d.z5,.int .u8 p.d.z6,.int .u8 p.d.z7] 114)):=⟨_,rfl⟩
   have HM3:=aa (show cK w1 w3 gn (.slice (some ⟨g,0,none⟩) n c1) (.int .i64 (-1)) (Mx.eW ls ps bs k) by rw[hw3.o];exact hmk.o.alloc _);have HP3:=aa (show Bx w3 wr.heap.size #[.int .i64 j,.int .u8 p.d.z0,.int .u8 p.d.z1,.int .u8 p.d.z2,.int .u8 p.d.z3,.int .u8 p.d.z4,.int .u8 p.d.z5,.int .u8 p.d.z6,.int .u8 p.d.z7] 114 by rw[hw3.o];exact Bx.new _ _ _);by_cases hlb:k=nb
   ·subst hlb
    go_upto_region 8 with fail
    rw[←hw3.o];clear e0 e1 e2 e3 e4 e5 e6 e7 e8;have HF:=aa (show cK w1 w3 gn (.slice (some ⟨g,0,none⟩) n c1) (.int .i64 (-1)) (Mx.ny ls ps bs) from by
     have h:=HM3.o;rw[Mx.nA (.inr (by rw[HIS.o];omega))] at h;exact h)
    obtain⟨b0,b1,b2⟩:=HF.o.1.three;have HR2:=aa (HBR.o.later HF.o.2.2.1 (by omega));obtain⟨t0,t1,t2⟩:=HR2.o.three;have tz:=HR2.o.frozen;have bl:=HF.o.1.lt;have hgn1:=HF.o.2.2.2;have hgw:¬gn=w.heap.size+1:=by omega
    go_wp2_with fail;obtain⟨r0,r1,r2⟩:=(show Bx _ _ #[.slice (some ⟨g,0,none⟩) n c1,.slice none 0 0,.int .i64 (-1)] 130 from((HR2.o.set 0 (.slice (some ⟨g,0,none⟩) n c1)).set 1 (.slice none 0 0)).set 2 (.int .i64 (-1))).three;refine bodyPost_ret (v:=.tuple #[.agg #[.slice (some ⟨g,0,none⟩) n c1,.slice none 0 0,.int .i64 (-1)],.nilIface]) (by simp[results,Tryz.results54,go_sem,r0,r1,r2]) rfl ⟨some ⟨g,0,none⟩,c1,rfl,?_,?_⟩
    ·have k2:=aX HF.o.2.1 HR2.o (by decide)
     exact au.qZ (az (az (az HF.o.2.1 _ _ k2) _ _ k2) _ _ k2)
    ·have hb:=HBel.o.trans (HF.o.2.2.1.mono HBel.o.size)
     exact((hb.setCell (p:=⟨w.heap.size+1,0,none⟩) (by simp) _).setCell (p:=⟨w.heap.size+1,1,none⟩) (by simp) _).setCell (p:=⟨w.heap.size+1,2,none⟩) (by simp) _
   ·have hne:((k:Int)==(nb:Int))=false:=by simp;omega
    have hkn:(k:Int)<nb:=by omega
    obtain⟨bb,boff,hba,hbb,hbc⟩:=(HI1.o.later HM3.o.2.2.1).2.2 (by omega);subst hba;have hbk:=hbc k (by omega);clear hbc;obtain⟨z,hz⟩:∃ z:Int,Hid (z=bs.getD k 0):=⟨_,rfl⟩
    rw[←hz.o] at hbk;have HZ:=aa (show bs[k]?=some z by
     have hkl:k<bs.length:=by rw[HIS.o];omega
     rw[hz.o,Ga,F0 hkl];rfl)
    have HZB:=aa (HBD.o z (Gp HZ.o));obtain⟨kk,hkk⟩:=Int.eq_ofNat_of_zero_le (Mx.uI z).1;have hkk8:(kk:Int)≤8:=by rw[←hkk];exact(Mx.uI z).2
    have HKK:=aa hkk;clear hkk;have HBB2:=aa (show bb<w1.heap.size by
     obtain⟨b',o',e',hl',_⟩:=HI1.o.2.2 (by omega);cases e'
     exact hl')
    obtain⟨b0,b1,b2⟩:=HM3.o.1.three;have bl:=HM3.o.1.lt;have p0:w3.cell? ⟨wr.heap.size,0,none⟩=some (.int .i64 (j:Int)):=HP3.o.cell 0;have hjl:(Mx.eW ls ps bs k)[j]?=some ((Mx.eW ls ps bs k).getD j zB):=by
     have hjn':j<(Mx.eW ls ps bs k).length:=by rw[Mx.nB,HLS.o];omega
     rw[Ga,F0 hjn'];rfl
    have HJL:=aa hjl;clear hjl;obtain⟨y,_,y0,y1,y2,y3,y4,y5,y6,y7⟩:=HM3.o.2.1.at_ j (by omega);obtain⟨hgl3,hgb3,hgln,cur,Y,hcur,hcY,hre⟩:=HM3.o.2.1.apart;have HCU:=aa hcur;have HCY:=aa hcY;have HRE:=aa hre;have n1:=aX HM3.o.2.1 HM3.o.1 (by decide);have hng:¬gn=g:=fun e=>n1 (by rw[e];rfl)
    have hpg:¬wr.heap.size=g:=by have:=(World.ownsRow.lt hmk.o.2.1 g rfl).2;omega
    have hbg:¬bb=g:=by have:=HBB2.o;omega
    have HFIT:=aa (show j*8+(p.d.cs.take kk).length≤cur.length by
     rw[HCY.o,Ge,cw,Mx.nB,HLS.o,Gk];have:p.d.cs.length=8:=rfl;omega)
    have HSRC:=aa (show ∀ (W:World),Bx W wr.heap.size #[.int .i64 j,.int .u8 p.d.z0,.int .u8 p.d.z1,.int .u8 p.d.z2,.int .u8 p.d.z3,.int .u8 p.d.z4,.int .u8 p.d.z5,.int .u8 p.d.z6,.int .u8 p.d.z7] 114→∀ i v,(p.d.cs.take kk)[i]?=some v→W.cell? ((⟨wr.heap.size,1,none⟩:Addr).add i)=some v from fun W hW i v hv=>by
     rw[Addr.add_lit,hW.cell];rw[List.getElem?_take] at hv;split at hv
     ·rw[←hv,Nat.add_comm 1 i,←Array.getElem?_toList]
      rfl
     ·cases hv)
    have HLEN:=aa (show(p.d.cs.take kk).length=Nat.min kk 8 by rw[Gk];rfl);clear hcur hcY hre n1;go_upto_region 9 with fail
    rw[←hw3.o];clear e0 e1 e2 e3 e4 e5 e6 e7 e8;go_region_held3 (fun w'=>w'.cell? ⟨gn,0,none⟩=some (.slice (some ⟨g,0,none⟩) n c1)∧w'.cell? ⟨wr.heap.size,0,none⟩=some (.int .i64 (j:Int))∧w'.cell? ⟨bb,boff+k,none⟩=some (.int .i64 z))
     (first|exact⟨b0,p0,hbk⟩|exact⟨q0,q1,q2⟩)
     (first
     |(refine qV rfl (.tmp 37) (.tmp 44) 78 78 rfl 5 Tryz.underlying78 (by kernel_rfl) 8 8 kk 8 g (j*8) ⟨wr.heap.size,1,none⟩ ?hd ?hs cur 33 HCU.o (p.d.cs.take kk) HLEN.o (HSRC.o _ (Bx.Cs HP3.o)) HFIT.o (EB _ _) ?_;(case hd=>simp[Act.eval]);(case hs=>simp[Act.eval]);intro w4 hrow hgr;have q0:=hgr.cell (a:=⟨gn,0,none⟩) b0 (fun e=>hng (Gg e));have q1:=hgr.cell (a:=⟨wr.heap.size,0,none⟩) p0 (fun e=>hpg (Gg e));have q2:=hgr.cell (a:=⟨bb,boff+k,none⟩) hbk (fun e=>hbg (Gg e)))
     |(go_at_call 96;refine(AZ z _ HZB.o.1 HZB.o.2).mono ?_;rintro e wK ⟨rfl,rfl⟩;rw[HKK.o]))
    all_goals
     have HMN:=aa (show cK w1 w4 gn (.slice (some ⟨g,0,none⟩) n c1) (.int .i64 (-1)) (Mx.eW ls ps bs (k+1)) by
      have hat:p.at_.toNat=j:=by rw[HJ.o];rfl
      rw[Mx.tv HX.o HZ.o,Mx.Ch _ (by rw[hat];exact HJL.o),hat,HKK.o,Int.toNat_natCast];exact cK.spliced HM3.o.drew hgr (au.spliced HCY.o HRE.o HJL.o (by omega) hrow))
     clear hrow hgr q0 q1 q2 b0 b1 b2 p0 hbk y0 y1 y2 y3 y4 y5 y6 y7;go_wp2_with fail;go_roundw
     case rel=>exact⟨k+1,by omega,by omega,by go_num,HMN⟩
     case measure=>simp[intOf];omega
  ·skip
   have HF:=aa (show cK w1 wr gn (.slice (some ⟨g,0,none⟩) n c1) (.int .i64 (-1)) (Mx.ny ls ps bs) from by
    have h:=hmk.o;rw[Mx.nA (.inl (by rw[HPS.o];omega))] at h;exact h)
   obtain⟨b0,b1,b2⟩:=HF.o.1.three;have HR2:=aa (HBR.o.later HF.o.2.2.1 (by omega));obtain⟨t0,t1,t2⟩:=HR2.o.three;have tz:=HR2.o.frozen;have bl:=HF.o.1.lt;have hgn1:=HF.o.2.2.2;have hgw:¬gn=w.heap.size+1:=by omega
   go_wp2_with fail;obtain⟨r0,r1,r2⟩:=(show Bx _ _ #[.slice (some ⟨g,0,none⟩) n c1,.slice none 0 0,.int .i64 (-1)] 130 from((HR2.o.set 0 (.slice (some ⟨g,0,none⟩) n c1)).set 1 (.slice none 0 0)).set 2 (.int .i64 (-1))).three;refine bodyPost_ret (v:=.tuple #[.agg #[.slice (some ⟨g,0,none⟩) n c1,.slice none 0 0,.int .i64 (-1)],.nilIface]) (by simp[results,Tryz.results54,go_sem,r0,r1,r2]) rfl ⟨some ⟨g,0,none⟩,c1,rfl,?_,?_⟩
   ·have k2:=aX HF.o.2.1 HR2.o (by decide)
    exact au.qZ (az (az (az HF.o.2.1 _ _ k2) _ _ k2) _ _ k2)
   ·have hb:=HBel.o.trans (HF.o.2.2.1.mono HBel.o.size)
    exact((hb.setCell (p:=⟨w.heap.size+1,0,none⟩) (by simp) _).setCell (p:=⟨w.heap.size+1,1,none⟩) (by simp) _).setCell (p:=⟨w.heap.size+1,2,none⟩) (by simp) _
end
end Go.Proofs.YtbicgjafjjihdaaGreatDoor
