/- Part. -/
import Derived.Deep.AppendLies
import Derived.Test.YtbicgjafjjihdaaGreatDoorZ8
set_option maxHeartbeats 16000000
set_option maxRecDepth 100000
namespace Go.Proofs.YtbicgjafjjihdaaGreatDoor
open Go.RowKit
section
variable {S P:Nat→Prop} {w w':World} {n k:Nat} {a:Option Addr} {l:List Int}
structure Ext (S:Nat→Prop) (w w':World):Prop where
 size:w.heap.size≤w'.heap.size
 block:∀ b,b<w.heap.size→¬S b→w'.heap[b]?=w.heap[b]?
theorem Ext.refl (S:Nat→Prop) (w:World):Ext S w w:=⟨Gi _,fun _ _ _=>rfl⟩
theorem Ext.trans {S:Nat→Prop} {w w' w'':World} (h:Ext S w w') (h':Ext S w' w''):Ext S w w'' :=
 ⟨Gn h.size h'.size,fun b hb hs=>(h'.block b (Gf hb h.size) hs).trans (h.block b hb hs)⟩
theorem Ext.mono {S':Nat→Prop} (h:Ext S w w') (hs:∀ b,b<w.heap.size→S b→S' b):Ext S' w w' :=
 ⟨h.size,fun b hb hn=>h.block b hb (fun e=>hn (hs b hb e))⟩
theorem Ext.below (h:Gq w w'):Ext S w w':=⟨h.size,fun b hb _=>h.block b hb⟩
theorem Ext.cell {S:Nat→Prop} {w w':World} (h:Ext S w w') {b o:Nat} (hb:b<w.heap.size) (hs:¬S b):w'.cell? ⟨b,o,none⟩=w.cell? ⟨b,o,none⟩ :=
 World.cell?_of_block (a:=⟨b,o,none⟩) (h.block b hb hs)
theorem Ext.bx {g:Nat} {cs:Array Value} {t:TypeId} (h:Ext S w w') (hx:Bx w g cs t) (hs:¬S g):Bx w' g cs t:=(h.block g hx.lt hs).trans hx
theorem Ext.own {base e size:Nat} {v:Value} {xs:List Value} (h:Ext S w w') (ho:w.ownsRow base e size v n xs) (hs:∀ k,v.ownBlock=some k→¬S k):w'.ownsRow base e size v n xs:=by
 refine⟨ho.1,?_⟩;rcases ho.2 with h1|⟨g,cap,cur,hv,hb,hg,h3⟩
 ·exact .inl h1
 ·refine .inr ⟨g,cap,cur,hv,hb,?_,h3⟩
  have hlt:g<w.heap.size:=(Array.getElem?_eq_some_iff.1 hg).1;exact(h.block g hlt (hs g (by rw[hv];rfl))).trans hg
def Av (P:Nat→Prop) (a:Option Addr) (n:Nat):Prop:=0<n→∀ p,a=some p→P p.block
theorem ay.lt_ (h:ay w a n l):Av (fun b=>b<w.heap.size) a n:=fun hn p hp=>by
 obtain⟨b,off,ha,hlt,_⟩:=h.2.2 hn;rw[ha] at hp;cases hp
 exact hlt
theorem aS.ltA (h:aS w a n l):Av (fun b=>b<w.heap.size) a n:=fun hn p hp=>by
 obtain⟨b,off,ha,hlt,_⟩:=h.2.2.2 hn;rw[ha] at hp;cases hp
 exact hlt
theorem Bytes.ltA (h:Bytes w a n l):Av (fun b=>b<w.heap.size) a n:=fun hn p hp=>by
 obtain⟨b,off,ha,hc⟩:=h.2.2.2 hn;rw[ha] at hp;cases hp
 exact World.block_lt_of_cell? w _ (hc 0 hn)
theorem ay.ext (h:ay w a n l) (hx:Ext S w w') (hp:Av P a n) (hd:∀ b,b<w.heap.size→P b→¬S b):ay w' a n l:=by
 refine⟨h.1,h.2.1,fun hn=>?_⟩;obtain⟨b,off,ha,hlt,hc⟩:=h.2.2 hn;refine⟨b,off,ha,Gf hlt hx.size,fun i hi=>?_⟩;rw[hx.cell hlt (hd b hlt (hp hn _ ha))];exact hc i hi
theorem aS.ext (h:aS w a n l) (hx:Ext S w w') (hp:Av P a n) (hd:∀ b,b<w.heap.size→P b→¬S b):aS w' a n l:=by
 refine⟨h.1,h.2.1,h.2.2.1,fun hn=>?_⟩;obtain⟨b,off,ha,hlt,hc⟩:=h.2.2.2 hn;refine⟨b,off,ha,Gf hlt hx.size,fun i hi=>?_⟩;rw[hx.cell hlt (hd b hlt (hp hn _ ha))];exact hc i hi
theorem Bytes.ext (h:Bytes w a n l) (hx:Ext S w w') (hp:Av P a n) (hd:∀ b,b<w.heap.size→P b→¬S b):Bytes w' a n l:=by
 refine⟨h.1,h.2.1,h.2.2.1,fun hn=>?_⟩;obtain⟨b,off,ha,hc⟩:=h.2.2.2 hn;have hlt:b<w.heap.size:=World.block_lt_of_cell? w _ (hc 0 hn);refine⟨b,off,ha,fun i hi=>?_⟩;rw[hx.cell hlt (hd b hlt (hp hn _ ha))];exact hc i hi
def FLF (P:Nat→Prop) (w:World) (a:Option Addr) (k:Nat) (fs:List Fr):Prop :=
 fs.length=k∧k≤maxLen∧(0<k→∃ b off,a=some ⟨b,off,none⟩∧P b∧b<w.heap.size∧∀ i f,fs[i]?=some f→∃ a1 n1 c1 a2 c2,w.cell? ⟨b,off+i*3,none⟩=some (.int .i64 f.kind)∧w.cell? ⟨b,off+i*3+1,none⟩=some (.slice a1 n1 c1)∧w.cell? ⟨b,off+i*3+2,none⟩=some (.slice a2 f.nb c2)∧ay w a1 n1 f.al∧aS w a2 f.nb f.bs∧n1≤c1∧f.nb≤c2∧Av P a1 n1∧Av P a2 f.nb)
theorem FLF.nil (P:Nat→Prop) (w:World):FLF P w none 0 []:=⟨rfl,by rw[aC];omega,fun h=>absurd h (by omega)⟩
theorem FLF.fl {fs:List Fr} (h:FLF P w a k fs):FL w a k fs:=by
 obtain⟨h1,h2,h4⟩:=h;refine⟨h1,h2,fun hp=>?_⟩;obtain⟨b,off,ha,_,hlt,hc⟩:=h4 hp;refine⟨b,off,ha,hlt,fun i f hf=>?_⟩;obtain⟨a1,n1,c1,a2,c2,e1,e2,e3,e4,e5,e6,e7,_⟩:=hc i f hf;exact⟨a1,n1,c1,a2,c2,e1,e2,e3,e4,e5,e6,e7⟩
theorem FLF.imp {P':Nat→Prop} {fs:List Fr} (h:FLF P w a k fs) (hi:∀ b,b<w.heap.size→P b→P' b):FLF P' w a k fs:=by
 obtain⟨h1,h2,h4⟩:=h;refine⟨h1,h2,fun hp=>?_⟩;obtain⟨b,off,ha,hb,hlt,hc⟩:=h4 hp;refine⟨b,off,ha,hi b hlt hb,hlt,fun i f hf=>?_⟩;obtain⟨a1,n1,c1,a2,c2,e1,e2,e3,e4,e5,e6,e7,e8,e9⟩:=hc i f hf;exact⟨a1,n1,c1,a2,c2,e1,e2,e3,e4,e5,e6,e7,fun hn p hp=>hi _ (e4.lt_ hn p hp) (e8 hn p hp),fun hn p hp=>hi _ (e5.ltA hn p hp) (e9 hn p hp)⟩
theorem FLF.yU {B:Nat} {fs:List Fr} (h:FLA B w a k fs) (hi:∀ b,b<w.heap.size→B≤b→P b):FLF P w a k fs:=by
 have h0:FLF (fun b=>B≤b) w a k fs:=h;exact h0.imp hi
theorem FLF.ext {S P:Nat→Prop} {w w':World} {a:Option Addr} {k:Nat} {fs:List Fr} (h:FLF P w a k fs) (hx:Ext S w w') (hd:∀ b,b<w.heap.size→P b→¬S b):FLF P w' a k fs:=by
 obtain⟨h1,h2,h4⟩:=h;refine⟨h1,h2,fun hp=>?_⟩;obtain⟨b,off,ha,hb,hlt,hc⟩:=h4 hp;refine⟨b,off,ha,hb,Gf hlt hx.size,fun i f hf=>?_⟩;obtain⟨a1,n1,c1,a2,c2,e1,e2,e3,e4,e5,e6,e7,e8,e9⟩:=hc i f hf;have hs:=hd b hlt hb;exact⟨a1,n1,c1,a2,c2,(hx.cell hlt hs).trans e1,(hx.cell hlt hs).trans e2,(hx.cell hlt hs).trans e3,e4.ext hx e8 hd,e5.ext hx e9 hd,e6,e7,e8,e9⟩
end
theorem eG (a:Option Addr) (n c:Nat) (ps:List Pt) (w:World) (hp:PL w a n ps) (hn:n≤1000) :
 Calls Tryz.prog 72 #[.slice a n c] w fun e w'=>∃ a2 c2,e=.returned (.slice a2 n c2)∧Hid (PL w' a2 n ps)∧Hid (n≤c2)∧Hid (∀ p,a2=some p→w.heap.size≤p.block)∧Hid (Gq w w'):=by
 refine(kp a n c ps w hp (by omega)).mono ?_;rintro e w' ⟨v,rfl,ho,hb⟩;obtain⟨a2,c2,hv,hc,hr,ha⟩:=aA ho;have hl:=hp.1;rw[hl] at hv hc hr;subst hv;exact⟨a2,c2,rfl,⟨hl,hr⟩,hc,ha,hb⟩
theorem uW {B:Nat} {w w1:World} {base:Nat} {v:Value} {es:List Ep} (h:cZ B w base v es) (hle:w.heap.size≤w1.heap.size) (hB:B≤w1.heap.size) {a:Option Addr} (ha:∀ p,a=some p→w1.heap.size≤p.block) (n:Nat):0<n→∀ p,a=some p→v.ownBlock≠some p.block∧B≤p.block :=
 fun _ p hp=>⟨fun e=>by have h1:=(h.lt _ e).2;have h2:=ha p hp;omega,by have h2:=ha p hp;omega⟩
theorem lv (a:Option Addr) (k c:Nat) (es:List Ep) (w:World) (he:EL w a k es) (hk:k≤1000) (hps:∀ e∈es,e.aI.length≤1000) :
 Calls Tryz.prog 69 #[.slice a k c] w fun e w'=>∃ a' c',e=.returned (.slice a' k c')∧Hid (cZ w.heap.size w' w.heap.size (.slice a' k c') es)∧Hid (Gq w w'):=by
 have HE:=aa he;have HN:=aa he.1;have HPS:=aa hps;clear he hps;go_enter Tryz.func69,Tryz.ntmps69;go_wp2_with fail;go_loopw [3,8] (fun s t wr=>∃ (j:Nat) (a':Option Addr) (c':Nat),j≤k∧t=.int .i64 (j:Int)∧s=.slice a' j c'∧Hid (cZ w.heap.size wr w.heap.size (.slice a' j c') (es.take j))∧Hid (Gq w wr)) (fun _ t _=>k-(intOf t).toNat)
 case atStart=>exact⟨0,none,0,by omega,rfl,rfl,cZ.nil _ _ _,Below.refl _ _⟩
 case round =>
  obtain⟨j,a',c',hj,rfl,rfl,hO,hB⟩:=hrel;by_cases hlt:j<k
  ·obtain⟨b,off,e,ai,ni,ci,hab,_,hx,e0,e1,hp,hc⟩:=(HE.o.later hB.o).at_ j hlt
   subst hab;obtain⟨z,ps⟩:=e;have HX:=aa hx;have hpn:=HPS.o _ (Gp hx);have HNI:=aa hp.1;have hni:ni≤1000:=by have h1:ps.length=ni:=hp.1;have h2:ps.length≤1000:=hpn;omega
   have HP:=aa hp;dsimp only at e0;clear hx hp hpn;obtain⟨W1,hW1⟩:∃ W1:World,Hid (W1=wr.alloc (.cells #[.int .i64 z,.slice ai ni ci] 164)):=⟨_,rfl⟩
   have X1:=bxA hW1;have BW:=beA hW1;have B1:=aa (hB.o.trans (BW.o.mono hB.o.size));have O1:=aa (hO.o.later BW.o);have P1:=aa (HP.o.later BW.o);have hsz:=X1.o.lt;have hbs:=B1.o.size;go_wp2_with fail;rw[←hW1.o];clear e0 e1;have q0:=X1.o.cell 0;have q1:=X1.o.cell 1;simp only[Gd,Gb,Gc] at q0 q1;go_region_held3 (fun w'=>w'.cell? ⟨wr.heap.size,0,none⟩=some (.int .i64 z)∧w'.cell? ⟨wr.heap.size,1,none⟩=some (.slice ai ni ci))
    (first
      | exact ⟨q0, q1⟩
      | exact ⟨r0, r1⟩
      | exact ⟨((af w2 _).cell (p := ⟨wr.heap.size, 0, none⟩) hs2).trans r0, ((af w2 _).cell (p := ⟨wr.heap.size, 1, none⟩) hs2).trans r1⟩
      | exact ⟨(hG3.cell (a := ⟨wr.heap.size, 0, none⟩) r0 (fun e => NE2.o e.symm)), (hG3.cell (a := ⟨wr.heap.size, 1, none⟩) r1 (fun e => NE2.o e.symm))⟩)
    (first
      |(refine j9 (w:=w2) rfl (.tmp 12) (.tmp 19) rfl w.heap.size w.heap.size (es.take j) ?o1 z a2 ni c2 ps ?o5 ?o6 ?o7 ?o8 ?o9 ?o10 ?_;(case o1=>exact O2.o);(case o5=>exact P2.o);(case o6=>exact C2.o);(case o7=>exact N2.o ni);(case o8=>rfl);(case o9=>have:=HN.o;rw[Gk];omega);(case o10=>exact S2.o);intro v3 w3 hO3 hG3)
      |(go_at_call 72;refine(eG ai ni ci ps W1.drew (P1.o.later (Below.refl _ _).drew) hni).mono ?_;rintro e w2 ⟨a2,c2,rfl,P2,C2,A2,B2⟩;have r0:=(B2.o.cell (p:=⟨wr.heap.size,0,none⟩) hsz).trans q0;have r1:=(B2.o.cell (p:=⟨wr.heap.size,1,none⟩) hsz).trans q1;have hs2:=Gf hsz B2.o.size;have D2:=aa (show Gq W1 w2 from(Below.refl _ _).drew.trans B2.o);have O2:=aa (O1.o.later D2.o);have N2:=aa (uW (w1:=W1) O1.o (Gi _) hbs A2.o);have S2:=aa (Gn hbs B2.o.size);have NE2:=aa (show(Value.slice a' j c').ownBlock≠some wr.heap.size from fun e=>by have:=(hO.o.lt _ e).2;omega)))
   all_goals
    have G3:=aa (show w2.grownBy w3 (Value.slice a' j c').ownBlock from hG3);have B3:=aa (B1.o.trans ((D2.o.mono hbs).trans ((Below.refl _ _).grown G3.o S2.o (fun i hi=>(O2.o.lt i hi).1))));obtain⟨a3,c3,hv3,_⟩:=hO3.el;have hl3:(es.take j++[(⟨z,ps⟩:Ep)]).length=j+1:=by rw[Ge,Gk];have:=HN.o;simp;omega
    rw[hl3] at hv3;subst hv3;have O3:=aa (show cZ w.heap.size w3 w.heap.size (.slice a3 (j+1) c3) (es.take (j+1)) by rw[aN _ _ _ HX.o];exact hO3);clear hO3 hG3 q0 q1 r0 r1;go_wp2_with fail;go_roundw
    case rel=>exact⟨j+1,a3,c3,by omega,by go_num,rfl,O3,B3⟩
    case measure=>simp[intOf];omega
  ·obtain rfl:j=k:=by omega
   have OF:=aa (show cZ w.heap.size wr w.heap.size (.slice a' j c') es by
    have h:=hO.o;rw[Gj (by rw[HN.o];omega)] at h;exact h)
   go_wp2_with fail;go_ret;exact⟨a',c',rfl,OF,hB⟩
theorem j3 (num:Int) (oa:Option Addr) (on oc:Nat) (sa:Option Addr) (sn sc:Nat) (be:Bool) (b:Bu) (k:Int) (w:World) (hn:b.num=num) (he:EL w sa sn b.se) (hc:sn≤sc) (h0:0≤k) (hk:k≤num) (hm:num≤2147483647) (hs:sn≤1000) :
 Calls Tryz.prog 147 #[.agg #[.int .i64 num,.slice oa on oc,.slice sa sn sc,.bool be],.int .i64 k] w fun e w'=>∃ a' c',e=.returned (.slice a' (Mx.aJ b k).length c')∧Hid (EL w' a' (Mx.aJ b k).length (Mx.aJ b k))∧Hid (Gq w w'):=by
 have HE:=aa he;have HN:=aa he.1;have HNUM:=aa hn;clear he hn;by_cases hA:(sn:Int)≤num-k
 ·have HK:=aa (show Mx.aJ b k=b.se by
   unfold Mx.aJ Mx.many;rw[HN.o,HNUM.o,show sn-min (num-k).toNat sn=0 by omega,List.drop_zero])
  rw[HK.o,HN.o];have B0:=aa (af w (.cells #[.int .i64 num,.slice oa on oc,.slice sa sn sc,.bool be] 101));have HE0:=aa (HE.o.later B0.o);rcases Int.lt_or_eq_of_le hA with h1|h1
  ·go_enter Tryz.func147,Tryz.ntmps147
   go_wp2_with fail;go_ret;exact⟨sa,sc,rfl,HE0,B0⟩
  ·obtain rfl:num=k+sn:=by omega
   have hkd:k+(sn:Int)-k=sn:=by omega
   clear h1 hA;go_enter Tryz.func147,Tryz.ntmps147;go_wp2_with fail;go_ret;exact⟨sa,sc,rfl,HE0,B0⟩
 ·obtain⟨D,hD⟩:=Int.eq_ofNat_of_zero_le (show 0≤num-k by omega)
  obtain rfl:num=k+D:=by omega
  have hDs:(D:Int)<sn:=by omega
  have hDn:D<sn:=by omega
  have HK:=aa (show Mx.aJ b k=b.se.drop (sn-D) by
   unfold Mx.aJ Mx.many;rw[HN.o,HNUM.o,show min (k+(D:Int)-k).toNat sn=D by omega])
  have HKL:=aa (show(Mx.aJ b k).length=D by rw[HK.o,List.length_drop,HN.o];omega);rw[HKL.o];obtain⟨bb,off,e,ai,ni,ci,hab,_⟩:=HE.o.at_ 0 (by omega);subst hab;have B0:=aa (af w (.cells #[.int .i64 (k+D),.slice oa on oc,.slice (some ⟨bb,off,none⟩) sn sc,.bool be] 101));have HE0:=aa (HE.o.later B0.o);obtain⟨lo,hlo⟩:∃ lo:Nat,Hid (lo=sn-D):=⟨_,rfl⟩
  have hli:(sn:Int)-D=(lo:Int):=by rw[hlo.o];omega
  have hls:lo≤sn:=by rw[hlo.o];omega
  have hsl:sn-lo=D:=by rw[hlo.o];omega
  have hkd:k+(D:Int)-k=D:=by omega
  clear hA hD;by_cases hsc:sc=lo
  ·have HD0:=aa (show D=0 by omega)
   go_enter Tryz.func147,Tryz.ntmps147;go_wp2_with fail;go_ret;exact⟨_,_,rfl,by rw[HK.o,HD0.o,Nat.sub_zero,List.drop_of_length_le (by rw[HN.o];omega)];exact⟨rfl,by unfold maxLen;omega,fun h=>absurd h (by omega)⟩,by first|exact B0|(subst hsc;exact B0)⟩
  ·have HF:=aa (show EL _ (some ⟨bb,off+lo*2,none⟩) D (b.se.drop (sn-D)) by
    have h:=HE0.o.drop lo hls;rw[hsl,hlo.o] at h;rw[hlo.o];exact h)
   go_enter Tryz.func147,Tryz.ntmps147;go_wp2_with fail;go_ret;exact⟨_,_,rfl,by rw[HK.o];exact HF,B0⟩
section
variable {B g base c:Nat} {w w':World} {a:Option Addr} {t:TypeId} {n:Int}
def fR (B:Nat) (w:World) (v:Value) (b:Bu):Prop :=
 ∃ (oa:Option Addr) (on oc:Nat) (sa:Option Addr) (sn sc:Nat),v=.agg #[.int .i64 b.num,.slice oa on oc,.slice sa sn sc,.bool b.be]∧PL w oa on b.op∧(0<on→∀ p,oa=some p→B≤p.block)∧ELA B w sa sn b.se∧on≤oc∧sn≤sc
theorem ELA.nil (B:Nat) (w:World):ELA B w none 0 []:=⟨rfl,by unfold maxLen;omega,fun h=>absurd h (by omega)⟩
theorem ELA.lower {B':Nat} {k:Nat} {es:List Ep} (h:ELA B w a k es) (hB:B'≤B):ELA B' w a k es:=by
 obtain⟨h1,h2,h4⟩:=h;refine⟨h1,h2,fun hp=>?_⟩;obtain⟨b,off,ha,hb,hlt,hc⟩:=h4 hp;refine⟨b,off,ha,by omega,hlt,fun i e he=>?_⟩;obtain⟨ai,ni,ci,c1,c2,c3,c4,c5⟩:=hc i e he;exact⟨ai,ni,ci,c1,c2,c3,c4,fun h0 p hp=>by have:=c5 h0 p hp;omega⟩
theorem fR.zero (B:Nat) (w:World):fR B w (.agg #[.int .i64 0,.slice none 0 0,.slice none 0 0,.bool false]) Mx.zBu:=⟨none,0,0,none,0,0,rfl,PL.nil w,fun h=>absurd h (by omega),ELA.nil B w,Gi _,Gi _⟩
theorem Bx.di {a0 a1 a2 a3:Value} (h:Bx w g #[a0,a1,a2,a3] t) (s0 s1 s2 s3:Value):Bx ((((w.setCell ⟨g,0,none⟩ s0).setCell ⟨g,1,none⟩ s1).setCell ⟨g,2,none⟩ s2).setCell ⟨g,3,none⟩ s3) g #[s0,s1,s2,s3] t :=
 (((h.set 0 s0).set 1 s1).set 2 s2).set 3 s3
def mW (w:World) (g:Nat) (s0 s1 s2 s3:Value):World:=(((w.setCell ⟨g,0,none⟩ s0).setCell ⟨g,1,none⟩ s1).setCell ⟨g,2,none⟩ s2).setCell ⟨g,3,none⟩ s3
theorem bY (h:Below B w w') (hg:B≤g) (s0 s1 s2 s3:Value):Below B w (mW w' g s0 s1 s2 s3) :=
 (((h.setCell (p:=⟨g,0,none⟩) hg _).setCell (p:=⟨g,1,none⟩) hg _).setCell (p:=⟨g,2,none⟩) hg _).setCell (p:=⟨g,3,none⟩) hg _
theorem fB (h:w.grownBy w' (some g)) (s0 s1 s2 s3:Value):w.grownBy (mW w' g s0 s1 s2 s3) (some g):=ak (ak (ak (ak h _ _) _ _) _ _) _ _
def Zc:Array Value:=(iC Mx.gU).toArray
theorem mB (w:World):(zeroValue 157).run Tryz.prog w=.ok (.agg Zc) w:=by kernel_rfl
theorem LB.new (w:World):LB (w.alloc (.cells Zc 157)) w.heap.size Mx.gU:=⟨rfl,Bx.new w _ _⟩
theorem PL.one {px:Int} {pd:B8} (h:Bx w g #[.int .i64 px,.int .u8 pd.z0,.int .u8 pd.z1,.int .u8 pd.z2,.int .u8 pd.z3,.int .u8 pd.z4,.int .u8 pd.z5,.int .u8 pd.z6,.int .u8 pd.z7] t):PL w (some ⟨g,0,none⟩) 1 [⟨px,pd⟩] :=
 ⟨rfl,by simp[fN,Pt.cs],by unfold maxLen;omega,fun _=>⟨g,0,rfl,h.lt,fun j u hj=>by rw[Nat.zero_add,h.cell];simpa [fN,Pt.cs] using hj⟩⟩
theorem jJ (h:w.grownBy w' (some g)) (hg:g≤w.heap.size):Below g w w':=⟨h.os,h.tape,h.output,h.size,fun k hk=>h.block k (by omega) (fun e=>by have:k=g:=Gg e;omega)⟩
theorem PL.off {w:World} {a:Option Addr} {n:Nat} {l:List Pt} {g:Nat} (h:PL w a n l) (hg:w.heap.size≤g):0<n→∀ p,a=some p→p.block≠g:=by
 intro h0 p hp;obtain⟨b,off,ha,hlt,_⟩:=h.2.2.2 h0;rw[ha] at hp;cases hp
 intro e;change b=g at e;omega
theorem bg.full {n:Nat} {l:List Pt} (h:bg w base (.slice a n c) l):PL w a n l∧n≤c∧∀ p,a=some p→base≤p.block:=by
 obtain⟨a',c',hv,hc,hr,hp⟩:=aA h;simp only[Value.slice.injEq] at hv;obtain⟨rfl,rfl,rfl⟩:=hv;exact⟨⟨rfl,hr⟩,hc,hp⟩
theorem cZ.full {n:Nat} {es:List Ep} (h:cZ B w base (.slice a n c) es) (hB:B≤base):ELA B w a n es∧n≤c:=by
 obtain⟨a',c',hv,hc,hr⟩:=h.ela hB;simp only[Value.slice.injEq] at hv;obtain⟨rfl,rfl,rfl⟩:=hv;exact⟨hr,hc⟩
namespace Mx
def ik (b:Bu) (n:Int) (p:Pt):Int:=if aK b n=0 then (if p.at_<0∨n≤p.at_ then 1 else 0) else aK b n
theorem Ak {b:Bu} {p:Pt} (h:aK b n≠0):ik b n p=aK b n:=by rw[ik,if_neg h]
theorem rr {b:Bu} {p:Pt} (h:aK b n=0) (hp:p.at_<0∨n≤p.at_):ik b n p=1:=by rw[ik,if_pos h,if_pos hp]
theorem xE {b:Bu} {p:Pt} (h:aK b n=0) (hp:¬(p.at_<0∨n≤p.at_)):ik b n p=0:=by rw[ik,if_pos h,if_neg hp]
def added (b:Bu) (n:Int) (p:Pt):Bu:=if ik b n p=0 then fF b p else zBu
theorem jn {b:Bu} {p:Pt} {k:Int} (h:ik b n p=k) (hk:k≠0):added b n p=zBu:=by rw[added,if_neg (by rw[h];exact hk)]
theorem rp {b:Bu} {p:Pt} (h:ik b n p=0):added b n p=fF b p:=by rw[added,if_pos h]
end Mx
theorem uu (num:Int) (oa:Option Addr) (on oc:Nat) (sa:Option Addr) (sn sc:Nat) (be:Bool) (ops:List Pt) (es:List Ep) (n:Int) (px:Int) (pd:B8) (w:World) (hp:PL w oa on ops) (he:EL w sa sn es) (hsm:Mx.small ops es) :
 Calls Tryz.prog 41 #[.agg #[.int .i64 num,.slice oa on oc,.slice sa sn sc,.bool be],.int .i64 n,.agg #[.int .i64 px,.int .u8 pd.z0,.int .u8 pd.z1,.int .u8 pd.z2,.int .u8 pd.z3,.int .u8 pd.z4,.int .u8 pd.z5,.int .u8 pd.z6,.int .u8 pd.z7]] w fun e w' =>
  ∃ v,e=.returned (.tuple #[v,bt (Mx.ik ⟨num,ops,es,be⟩ n ⟨px,pd⟩)])∧Hid (fR w.heap.size w' v (Mx.added ⟨num,ops,es,be⟩ n ⟨px,pd⟩))∧Hid (Gq w w'):=by
 obtain⟨w0,hw0⟩:∃ w0:World,Hid (w0=((w.alloc (.cells #[.int .i64 num,.slice oa on oc,.slice sa sn sc,.bool be] 101)).alloc (.cells #[.int .i64 px,.int .u8 pd.z0,.int .u8 pd.z1,.int .u8 pd.z2,.int .u8 pd.z3,.int .u8 pd.z4,.int .u8 pd.z5,.int .u8 pd.z6,.int .u8 pd.z7] 114)).alloc (.cells #[.int .i64 0,.slice none 0 0,.slice none 0 0,.bool false] 101)):=⟨_,rfl⟩
 have XB:=aa (show Bx w0 w.heap.size #[.int .i64 num,.slice oa on oc,.slice sa sn sc,.bool be] 101 by rw[hw0.o];exact((Bx.new w _ _).alloc _).alloc _);have XP:=aa (show Bx w0 (w.heap.size+1) #[.int .i64 px,.int .u8 pd.z0,.int .u8 pd.z1,.int .u8 pd.z2,.int .u8 pd.z3,.int .u8 pd.z4,.int .u8 pd.z5,.int .u8 pd.z6,.int .u8 pd.z7] 114 by
  rw[hw0.o];have h:=(Bx.new (w.alloc (.cells #[.int .i64 num,.slice oa on oc,.slice sa sn sc,.bool be] 101)) #[.int .i64 px,.int .u8 pd.z0,.int .u8 pd.z1,.int .u8 pd.z2,.int .u8 pd.z3,.int .u8 pd.z4,.int .u8 pd.z5,.int .u8 pd.z6,.int .u8 pd.z7] 114).alloc (.cells #[.int .i64 0,.slice none 0 0,.slice none 0 0,.bool false] 101);rw[World.size_alloc] at h;exact h)
 have XR:=aa (show Bx w0 (w.heap.size+1+1) #[.int .i64 0,.slice none 0 0,.slice none 0 0,.bool false] 101 by
  rw[hw0.o];have h:=Bx.new ((w.alloc (.cells #[.int .i64 num,.slice oa on oc,.slice sa sn sc,.bool be] 101)).alloc (.cells #[.int .i64 px,.int .u8 pd.z0,.int .u8 pd.z1,.int .u8 pd.z2,.int .u8 pd.z3,.int .u8 pd.z4,.int .u8 pd.z5,.int .u8 pd.z6,.int .u8 pd.z7] 114)) #[.int .i64 0,.slice none 0 0,.slice none 0 0,.bool false] 101;rw[World.size_alloc,World.size_alloc] at h;exact h)
 have B0:=aa (show Gq w w0 by rw[hw0.o];exact((af _ _).alloc (by simp) _).alloc (by simp;omega) _);have HP0:=aa (hp.later B0.o);have HE0:=aa (he.later B0.o);have HEN:=aa he.1;have HPN:=aa hp.1;have HSM:=aa hsm;clear hp he hsm;go_enter Tryz.func41,Tryz.ntmps41;go_wp2_with fail;rw[←hw0.o];refine(kt num oa on oc sa sn sc be ops es n w0 HP0.o HE0.o).mono ?_;rintro e w1 ⟨rfl,hb1⟩;have XB1:=aa (XB.o.later hb1 XB.o.lt);have XP1:=aa (XP.o.later hb1 XP.o.lt);have XR1:=aa (XR.o.later hb1 XR.o.lt);have B1:=aa (B0.o.trans (hb1.mono B0.o.size));have HP1:=aa (HP0.o.later hb1);have HE1:=aa (HE0.o.later hb1);clear hb1;have hr1:w.heap.size+1+1<w1.heap.size:=XR1.o.lt;have hr0:w.heap.size<w1.heap.size:=XB1.o.lt;have hrp:w.heap.size+1<w1.heap.size:=XP1.o.lt;obtain⟨b0,b1,b2,b3⟩:=XB1.o.four;obtain⟨q0,q1,q2,q3,q4,q5,q6,q7,q8⟩:=Bx.nine (p:=⟨px,pd⟩) XP1.o;dsimp only at q0 q1 q2 q3 q4 q5 q6 q7 q8;obtain⟨r0,r1,r2,r3⟩:=XR1.o.four;have rz:=XR1.o.frozen;by_cases hb:Mx.aK ⟨num,ops,es,be⟩ n=0
 ·have HB:=aa hb
  rw[hb,aG];clear hb;have HOK:=aa (Mx.bM HB.o);by_cases h1:px<0
  ·have dh1:decide (px<0)=true:=by simpa using h1
   have HF:=aa (Mx.rr (b:=⟨num,ops,es,be⟩) (n:=n) (p:=⟨px,pd⟩) HB.o (.inl h1));have HA:=aa (Mx.jn HF.o (by omega));go_wp2_with fail;obtain⟨t0,t1,t2,t3⟩:=(XR1.o.di (.int .i64 0) (.slice none 0 0) (.slice none 0 0) (.bool false)).four;exact bodyPost_ret (v:=.tuple #[.agg #[.int .i64 0,.slice none 0 0,.slice none 0 0,.bool false],.iface 28 (.int .i64 1)]) (by simp[results,Tryz.results41,go_sem,t0,t1,t2,t3]) rfl ⟨_,by rw[HF.o]<;>rfl,by rw[HA.o];exact fR.zero _ _,aa (bY B1.o (by omega) _ _ _ _)⟩
  ·have dh1:decide (px<0)=false:=by simpa using h1
   by_cases h2:n≤px
   ·have dh2:decide (n≤px)=true:=by simpa using h2
    have HF:=aa (Mx.rr (b:=⟨num,ops,es,be⟩) (n:=n) (p:=⟨px,pd⟩) HB.o (.inr h2));have HA:=aa (Mx.jn HF.o (by omega));go_wp2_with fail;obtain⟨t0,t1,t2,t3⟩:=(XR1.o.di (.int .i64 0) (.slice none 0 0) (.slice none 0 0) (.bool false)).four;exact bodyPost_ret (v:=.tuple #[.agg #[.int .i64 0,.slice none 0 0,.slice none 0 0,.bool false],.iface 28 (.int .i64 1)]) (by simp[results,Tryz.results41,go_sem,t0,t1,t2,t3]) rfl ⟨_,by rw[HF.o]<;>rfl,by rw[HA.o];exact fR.zero _ _,aa (bY B1.o (by omega) _ _ _ _)⟩
   ·have dh2:decide (n≤px)=false:=by simpa using h2
    have HF:=aa (Mx.xE (b:=⟨num,ops,es,be⟩) (p:=⟨px,pd⟩) (n:=n) HB.o (by show ¬(px<0∨n≤px);omega));have HA:=aa (Mx.rp HF.o);have HPX:=aa (show 0≤px∧px<32 by have:=HOK.o.1;omega);have HRK:=aa (Mx.oe (Mx.bW HOK.o.2.2).2.1 (by have:=HOK.o.1;omega));have hz:=mB;go_wp2_with fail;clear hz;obtain⟨W1,hW1⟩:∃ W1:World,Hid (W1=w1.alloc (.cells Zc 157)):=⟨_,rfl⟩
    rw[←hW1.o];have L1:=aa (show LB W1 w1.heap.size Mx.gU by rw[hW1.o];exact LB.new w1);have C1:=beA hW1;refine(mY w1.heap.size oa on oc ops Mx.gU W1 L1.o (HP1.o.later C1.o) (HP1.o.off (Gi _)) (Mx.lP HRK.o)).mono ?_;rintro e w2 ⟨rfl,L2,G2⟩;have C2:=aa (show Gq w1 w2 from C1.o.trans (jJ G2.o C1.o.size));clear b0 b1 b2 b3 q0 q1 q2 q3 q4 q5 q6 q7 q8 r0 r1 r2 r3 rz;obtain⟨q0,q1,q2,q3,q4,q5,q6,q7,q8⟩:=Bx.nine (p:=⟨px,pd⟩) (XP1.o.later C2.o XP1.o.lt);dsimp only at q0 q1 q2 q3 q4 q5 q6 q7 q8;go_wp2_with fail;clear q0 q1 q2 q3 q4 q5 q6 q7 q8;obtain⟨W3,hW3⟩:∃ W3:World,Hid (W3=w2.alloc (.cells #[.int .i64 px,.int .u8 pd.z0,.int .u8 pd.z1,.int .u8 pd.z2,.int .u8 pd.z3,.int .u8 pd.z4,.int .u8 pd.z5,.int .u8 pd.z6,.int .u8 pd.z7] 114)):=⟨_,rfl⟩
    rw[←hW3.o];have C23:=beA hW3;have hg2:w1.heap.size<w2.heap.size:=L2.o.2.lt;have L3:=aa (L2.o.later C23.o hg2);have P3:=aa (show PL W3 (some ⟨w2.heap.size,0,none⟩) 1 [⟨px,pd⟩] by rw[hW3.o];exact PL.one (Bx.new w2 _ _));refine(mY w1.heap.size _ 1 1 [⟨px,pd⟩] _ W3 L3.o P3.o (fun _ p hp=>by cases hp;show ¬w2.heap.size=w1.heap.size;omega) (fun q hq=>by simp at hq;subst hq;exact HPX.o)).mono ?_;rintro e w4 ⟨rfl,L4,G4⟩;have C4:=aa (show Gq w1 w4 from C2.o.trans ((C23.o.mono (by omega)).trans (jJ G4.o (by have:=C23.o.size;omega))));have HPA:=aa (Mx.BQ (p:=⟨px,pd⟩) HRK.o HPX.o.1 HPX.o.2);have XB4:=aa (XB1.o.later C4.o XB1.o.lt);have XR4:=aa (XR1.o.later C4.o XR1.o.lt);have HE4:=aa (HE1.o.later C4.o);have hs4:w1.heap.size≤w4.heap.size:=C4.o.size;have hs0:w.heap.size<w4.heap.size:=XB4.o.lt;have hr4:w.heap.size+1+1<w4.heap.size:=XR4.o.lt;obtain⟨b0,b1,b2,b3⟩:=XB4.o.four;have hsn:sn≤1000:=by have:=HEN.o;have:=HSM.o.2.1;omega
    have HPS:=aa (show ∀ e∈es,e.aI.length≤1000 from fun e he=>by have:=HSM.o.1 e he;omega);have hrb:¬w.heap.size+1+1=w.heap.size:=by omega
    have rz:=XR4.o.frozen;obtain⟨r0,r1,r2,r3⟩:=XR4.o.four;go_wp2_with fail;go_region_held3 (fun w'=>w'.cell? ⟨w.heap.size,0,none⟩=some (.int .i64 num)∧w'.cell? ⟨w.heap.size,1,none⟩=some (.slice oa on oc)∧w'.cell? ⟨w.heap.size,2,none⟩=some (.slice sa sn sc)∧w'.cell? ⟨w.heap.size,3,none⟩=some (.bool be))
     (first
       | with_reducible exact ⟨d0, d1, d2, d3⟩
       | with_reducible exact ⟨c0, c1, c2, c3⟩
       |(simp only[an];with_reducible exact⟨b0,b1,b2,b3⟩)
       |(simp only[aw hrb];with_reducible exact⟨d0,d1,d2,d3⟩))
     (first
       |(go_at_call 68;refine(sM w1.heap.size _ w4.drew L4.o.drew).mono ?_;rintro e w5 ⟨a5,k5,rfl,O5,B5⟩;have D5:=aa (show Gq w4 w5 from(Below.refl _ _).drew.trans B5.o);have hs5:w.heap.size<w5.heap.size:=Gf hs0 D5.o.size;obtain⟨c0,c1,c2,c3⟩:=(XB4.o.later D5.o hs0).four;have E5:=aa (HE4.o.later D5.o))
       |(go_at_call 69;refine(lv sa sn sc es w5 E5.o hsn HPS.o).mono ?_;rintro e w6 ⟨a6,k6,rfl,O6,B6⟩;have D6:=aa (show Gq w4 w6 from D5.o.trans (B6.o.mono D5.o.size));obtain⟨d0,d1,d2,d3⟩:=(XB4.o.later D6.o hs0).four;have ez:=(XR4.o.later D6.o hr4).frozen;obtain⟨e0,e1,e2,e3⟩:=(XR4.o.later D6.o hr4).four;clear b0 b1 b2 b3 c0 c1 c2 c3 r0 r1 r2 r3 rz))
    all_goals
     clear e0 e1 e2 e3 d0 d1 d2 d3 ez;obtain⟨N5,hN5⟩:∃ N5:Nat,Hid (N5=(Mx.aQ 0 (Mx.dD (Mx.dD Mx.gU ops) [⟨px,pd⟩])).length):=⟨_,rfl⟩
     rw[←hN5.o] at O5 ⊢;rw[HPA.o] at O5;have F5:=aa (O5.o.full);have F6:=aa (O6.o.full (Gi _));have GF:=aa (fB (aq w6 (some (w.heap.size+1+1))) (.int .i64 num) (.slice a5 N5 k5) (.slice a6 sn k6) (.bool be));have BF:=aa (show Gq w (mW w6 (w.heap.size+1+1) (.int .i64 num) (.slice a5 N5 k5) (.slice a6 sn k6) (.bool be)) from bY (B1.o.trans ((C4.o.trans (D6.o.mono hs4)).mono (by omega))) (by omega) _ _ _ _);have XF:=aa ((XR4.o.later D6.o hr4).di (.int .i64 num) (.slice a5 N5 k5) (.slice a6 sn k6) (.bool be));have PF:=aa (show PL (mW w6 (w.heap.size+1+1) (.int .i64 num) (.slice a5 N5 k5) (.slice a6 sn k6) (.bool be)) a5 N5 (Mx.cX ops ⟨px,pd⟩) from(F5.o.1.later B6.o).grownBy GF.o (fun _ p hp e=>by have h1:w4.heap.size≤p.block:=F5.o.2.2 p hp;have h2:w.heap.size+1+1=p.block:=Gg e;omega));have EF:=aa (show ELA w5.heap.size (mW w6 (w.heap.size+1+1) (.int .i64 num) (.slice a5 N5 k5) (.slice a6 sn k6) (.bool be)) a6 sn es from F6.o.1.grown GF.o (Gf hr4 D5.o.size));go_wp2_with fail;obtain⟨t0,t1,t2,t3⟩:=XF.o.four;exact bodyPost_ret (v:=.tuple #[.agg #[.int .i64 num,.slice a5 N5 k5,.slice a6 sn k6,.bool be],.nilIface]) (by simp[results,Tryz.results41,go_sem,t0,t1,t2,t3]) rfl ⟨_,by rw[HF.o]<;>rfl,by rw[HA.o];exact⟨a5,N5,k5,a6,sn,k6,rfl,PF.o,fun _ p hp=>by have h1:w4.heap.size≤p.block:=F5.o.2.2 p hp;omega,EF.o.lower (by have:=D5.o.size;omega),F5.o.2.1,F6.o.2⟩,BF⟩
 ·rw[aZ hb]
  have HB:=aa hb;have HF:=aa (Mx.Ak (p:=⟨px,pd⟩) hb);clear hb;have HA:=aa (Mx.jn HF.o HB.o);go_wp2_with fail;obtain⟨t0,t1,t2,t3⟩:=(XR1.o.di (.int .i64 0) (.slice none 0 0) (.slice none 0 0) (.bool false)).four;exact bodyPost_ret (v:=.tuple #[.agg #[.int .i64 0,.slice none 0 0,.slice none 0 0,.bool false],.iface 28 (.int .i64 (Mx.aK ⟨num,ops,es,be⟩ n))]) (by simp[results,Tryz.results41,go_sem,t0,t1,t2,t3]) rfl ⟨_,by rw[HF.o,aZ HB.o]<;>rfl,by rw[HA.o];exact fR.zero _ _,aa (bY B1.o (by omega) _ _ _ _)⟩
end
section
variable {n:Int}
theorem qF {w:World} {g o o':Nat} (h:¬o=o') (v:Value):(w.setCell ⟨g,o,none⟩ v).cell? ⟨g,o',none⟩=w.cell? ⟨g,o',none⟩:=World.cell?_setCell_other w ⟨g,o,none⟩ ⟨g,o',none⟩ v (fun e=>h (by cases e;rfl))
namespace Mx
def jj (b:Bu) (n:Int):Int:=if aK b n=0 then (if b.num=2147483647 then 2 else 0) else aK b n
theorem Cf {b:Bu} (h:aK b n≠0):jj b n=aK b n:=by rw[jj,if_neg h]
theorem Fi {b:Bu} (h:aK b n=0) (hp:b.num=2147483647):jj b n=2:=by rw[jj,if_pos h,if_pos hp]
theorem Ae {b:Bu} (h:aK b n=0) (hp:¬b.num=2147483647):jj b n=0:=by rw[jj,if_pos h,if_neg hp]
def j8 (b:Bu) (n:Int):Bu:=if jj b n=0 then bS b else zBu
theorem ov {b:Bu} {k:Int} (h:jj b n=k) (hk:k≠0):j8 b n=zBu:=by rw[j8,if_neg (by rw[h];exact hk)]
theorem qo {b:Bu} (h:jj b n=0):j8 b n=bS b:=by rw[j8,if_pos h]
end Mx
theorem Ca (num:Int) (oa:Option Addr) (on oc:Nat) (sa:Option Addr) (sn sc:Nat) (be:Bool) (ops:List Pt) (es:List Ep) (n:Int) (w:World) (hp:PL w oa on ops) (he:EL w sa sn es) (hsm:Mx.small ops es) :
 Calls Tryz.prog 43 #[.agg #[.int .i64 num,.slice oa on oc,.slice sa sn sc,.bool be],.int .i64 n] w fun e w' =>
  ∃ v,e=.returned (.tuple #[v,bt (Mx.jj ⟨num,ops,es,be⟩ n)])∧Hid (fR w.heap.size w' v (Mx.j8 ⟨num,ops,es,be⟩ n))∧Hid (Gq w w'):=by
 obtain⟨w0,hw0⟩:∃ w0:World,Hid (w0=(w.alloc (.cells #[.int .i64 num,.slice oa on oc,.slice sa sn sc,.bool be] 101)).alloc (.cells #[.int .i64 0,.slice none 0 0,.slice none 0 0,.bool false] 101)):=⟨_,rfl⟩
 have XB:=aa (show Bx w0 w.heap.size #[.int .i64 num,.slice oa on oc,.slice sa sn sc,.bool be] 101 by rw[hw0.o];exact(Bx.new w _ _).alloc _);have XR:=aa (show Bx w0 (w.heap.size+1) #[.int .i64 0,.slice none 0 0,.slice none 0 0,.bool false] 101 by
  rw[hw0.o];have h:=Bx.new (w.alloc (.cells #[.int .i64 num,.slice oa on oc,.slice sa sn sc,.bool be] 101)) #[.int .i64 0,.slice none 0 0,.slice none 0 0,.bool false] 101;rw[World.size_alloc] at h;exact h)
 have B0:=aa (show Gq w w0 by rw[hw0.o];exact(af _ _).alloc (by simp) _);have HP0:=aa (hp.later B0.o);have HE0:=aa (he.later B0.o);have HEN:=aa he.1;have HPN:=aa hp.1;have HSM:=aa hsm;have hsn:sn≤1000:=by have:=he.1;have:=hsm.2.1;omega
 have hon:on≤1000:=by have:=hp.1;have:=hsm.2.2;omega
 clear hp he hsm;go_enter Tryz.func43,Tryz.ntmps43;go_wp2_with fail;rw[←hw0.o];refine(kt num oa on oc sa sn sc be ops es n w0 HP0.o HE0.o).mono ?_;rintro e w1 ⟨rfl,hb1⟩;have XB1:=aa (XB.o.later hb1 XB.o.lt);have XR1:=aa (XR.o.later hb1 XR.o.lt);have B1:=aa (B0.o.trans (hb1.mono B0.o.size));have HP1:=aa (HP0.o.later hb1);have HE1:=aa (HE0.o.later hb1);clear hb1;have hr1:w.heap.size+1<w1.heap.size:=XR1.o.lt;have hr0:w.heap.size<w1.heap.size:=XB1.o.lt;have hrb:¬w.heap.size+1=w.heap.size:=by omega
 obtain⟨b0,b1,b2,b3⟩:=XB1.o.four;obtain⟨r0,r1,r2,r3⟩:=XR1.o.four;have rz:=XR1.o.frozen;by_cases hb:Mx.aK ⟨num,ops,es,be⟩ n=0
 ·have HB:=aa hb
  rw[hb,aG];clear hb;have HOK:=aa (Mx.bM HB.o);have hnum:num≤2147483647:=HOK.o.1.2.2.2;have hnum0:0≤num:=HOK.o.1.2.2.1;have hs4:sn≤4:=by have h1:es.length≤4:=HOK.o.2.1;have:=HEN.o;omega
  by_cases h1:num=2147483647
  ·have HF:=aa (Mx.Fi (b:=⟨num,ops,es,be⟩) HB.o h1)
   subst h1;have HA:=aa (Mx.ov HF.o (by omega));go_wp2_with fail;obtain⟨t0,t1,t2,t3⟩:=(XR1.o.di (.int .i64 0) (.slice none 0 0) (.slice none 0 0) (.bool false)).four;exact bodyPost_ret (v:=.tuple #[.agg #[.int .i64 0,.slice none 0 0,.slice none 0 0,.bool false],.iface 28 (.int .i64 2)]) (by simp[results,Tryz.results43,go_sem,t0,t1,t2,t3]) rfl ⟨_,by rw[HF.o]<;>rfl,by rw[HA.o];exact fR.zero _ _,aa (bY B1.o (by omega) _ _ _ _)⟩
  ·have dh1:(num==2147483647)=false:=by simpa using h1
   have HF:=aa (Mx.Ae (b:=⟨num,ops,es,be⟩) HB.o h1);have HA:=aa (Mx.qo HF.o);by_cases hfull:be=true∨sn=4
   ·have HFU:=aa (show Mx.bS ⟨num,ops,es,be⟩=⟨num+1,[],[],true⟩ by
     unfold Mx.bS;rw[show Mx.dA ⟨num,ops,es,be⟩=true by
      unfold Mx.dA;rcases hfull with h|h
      ·simp[h]
      ·simp[HEN.o,h]]
     rfl)
    have hcase:be=true∨be=false∧sn=4:=by
     cases be
     ·right
      simpa using hfull
     ·exact .inl rfl
    have HX:=aa (show Bx w1 (w.heap.size+1) #[.int .i64 0,.slice none 0 0,.slice none 0 0,.bool false] 101 from XR1.o);clear hfull;rcases hcase with rfl|⟨rfl,rfl⟩
    all_goals
     go_wp2_with fail;obtain⟨t0,t1,t2,t3⟩:=((HX.o.di (.int .i64 (num+1)) (.slice none 0 0) (.slice none 0 0) (.bool true)).alloc (.cells #[.int .i64 (num+1),.slice none 0 0,.slice none 0 0,.bool true] 101)).four;exact bodyPost_ret (v:=.tuple #[.agg #[.int .i64 (num+1),.slice none 0 0,.slice none 0 0,.bool true],.nilIface]) (by simp[results,Tryz.results43,go_sem,t0,t1,t2,t3]) rfl ⟨_,by rw[HF.o]<;>rfl,by rw[HA.o,HFU.o];exact⟨none,0,0,none,0,0,rfl,PL.nil _,fun h=>absurd h (by omega),ELA.nil _ _,Gi _,Gi _⟩,aa ((bY B1.o (by omega) _ _ _ _).alloc (bY B1.o (by omega) _ _ _ _).size _)⟩
   ·have hbe:be=false:=by cases be<;>simp_all
    have h4:¬sn=4:=fun h=>hfull (.inr h)
    have d4:((sn:Int)==4)=false:=by simp;omega
    have HFU:=aa (show Mx.bS ⟨num,ops,es,be⟩=⟨num+1,[],es++[⟨num+1,ops⟩],false⟩ by
     unfold Mx.bS;rw[show Mx.dA ⟨num,ops,es,be⟩=false by
      unfold Mx.dA;rw[hbe,HEN.o];simp[h4]]
     rfl)
    subst hbe;clear hfull h4;go_wp2_with fail;obtain⟨W2,hW2⟩:∃ W2:World,Hid (W2=w1.alloc (.cells #[.int .i64 (num+1),.slice none 0 0,.slice none 0 0,.bool false] 101)):=⟨_,rfl⟩
    rw[←hW2.o];have XN:=bxA hW2;have D2:=beA hW2;have XB2:=aa (XB1.o.later D2.o hr0);have XR2:=aa (XR1.o.later D2.o hr1);have HP2:=aa (HP1.o.later D2.o);have HE2:=aa (HE1.o.later D2.o);have hnl:w1.heap.size<W2.heap.size:=XN.o.lt;have hbl:w.heap.size<W2.heap.size:=XB2.o.lt;have hrl:w.heap.size+1<W2.heap.size:=XR2.o.lt;have hnb:¬w1.heap.size=w.heap.size:=by omega
    have hnr:¬w1.heap.size=w.heap.size+1:=by omega
    have HPS:=aa (show ∀ e∈es,e.aI.length≤1000 from fun e he=>by have:=HSM.o.1 e he;omega);clear b0 b1 b2 b3 r0 r1 r2 r3 rz;obtain⟨_,b1,b2,_⟩:=XB2.o.four;obtain⟨n0,_,_,_⟩:=XN.o.four;go_region_held3 (fun w'=>w'.cell? ⟨w.heap.size,1,none⟩=some (.slice oa on oc)∧w'.cell? ⟨w.heap.size,2,none⟩=some (.slice sa sn sc)∧w'.cell? ⟨w1.heap.size,0,none⟩=some (.int .i64 (num+1)))
     (first
       | with_reducible exact ⟨e1, e2, e0⟩
       | with_reducible exact ⟨d1, d2, d0⟩
       | with_reducible exact ⟨c1, c2, c0⟩
       |(simp only[an];with_reducible exact⟨b1,b2,n0⟩)
       |(simp only[ao hs4b,ao hs4n];with_reducible exact⟨d1,d2,d0⟩)
       |(simp only[aw hnb,qF (show ¬2=0 by omega)];with_reducible exact⟨e1,e2,e0⟩))
     (first
       |(go_at_call 69;refine(lv sa sn sc es W2.drew (HE2.o.later (Below.refl _ _).drew) hsn HPS.o).mono ?_;rintro e w3 ⟨a3,k3,rfl,O3,B3⟩;have D3:=aa (show Gq W2 w3 from(Below.refl _ _).drew.trans B3.o);obtain⟨_,c1,c2,_⟩:=(XB2.o.later D3.o hbl).four;obtain⟨c0,_,_,_⟩:=(XN.o.later D3.o hnl).four;have P3:=aa (HP2.o.later D3.o))
       |(go_at_call 72;refine(eG oa on oc ops w3 P3.o hon).mono ?_;rintro e w4 ⟨a4,k4,rfl,P4,C4,A4,B4⟩;have D4:=aa (show Gq W2 w4 from D3.o.trans (B4.o.mono D3.o.size));obtain⟨_,d1,d2,_⟩:=(XB2.o.later D4.o hbl).four;obtain⟨d0,_,_,_⟩:=(XN.o.later D4.o hnl).four;have O4:=aa (O3.o.later B4.o);have N4:=aa (uW (w1:=w3) O3.o (Gi _) D3.o.size A4.o);have hs4b:w.heap.size<w4.heap.size:=Gf hbl D4.o.size;have hs4n:w1.heap.size<w4.heap.size:=Gf hnl D4.o.size)
       |(refine j9 (w:=w4) rfl (.tmp 37) (.tmp 44) rfl W2.drew.heap.size W2.drew.heap.size es ?o1 (num+1) a4 on k4 ops ?o5 ?o6 ?o7 ?o8 ?o9 ?o10 ?_;(case o1=>exact O4.o);(case o5=>exact P4.o);(case o6=>exact C4.o);(case o7=>exact N4.o on);(case o8=>rfl);(case o9=>have:=HEN.o;omega);(case o10=>exact D4.o.size);intro v5 w5 hO5 hG5;have D5:=aa (show Gq W2 w5 from D4.o.trans ((Below.refl _ _).grown hG5 D4.o.size (fun i hi=>(O4.o.lt i hi).1)));obtain⟨_,e1,e2,_⟩:=(XB2.o.later D5.o hbl).four;obtain⟨e0,n1,n2,n3⟩:=(XN.o.later D5.o hnl).four;have nz:=(XN.o.later D5.o hnl).frozen;obtain⟨a5,k5,hv5,hk5,hE5⟩:=hO5.ela (Gi _);rw[Ge,List.length_singleton,HEN.o] at hv5 hk5 hE5;subst hv5;have E5:=aa hE5;have K5:=aa hk5;clear hO5 hG5 hE5 hk5 b1 b2 n0 c0 c1 c2 d0 d1 d2))
    all_goals
     have XN6:=aa (show Bx (w5.setCell ⟨w1.heap.size,2,none⟩ (.slice a5 (sn+1) k5)) w1.heap.size #[.int .i64 (num+1),.slice none 0 0,.slice a5 (sn+1) k5,.bool false] 101 from(XN.o.later D5.o hnl).set 2 _);have XR6:=aa (show Bx (w5.setCell ⟨w1.heap.size,2,none⟩ (.slice a5 (sn+1) k5)) (w.heap.size+1) _ _ from(XR2.o.later D5.o hrl).other ⟨w1.heap.size,2,none⟩ _ (fun e=>hnr e.symm));obtain⟨W6,hW6⟩:∃ W6:World,Hid (W6=w5.setCell ⟨w1.heap.size,2,none⟩ (.slice a5 (sn+1) k5)):=⟨_,rfl⟩
     have G6:=aa (show w5.grownBy W6 (some w1.heap.size) by rw[hW6.o];exact ak (aq _ _) _ _);have B6:=aa (show Gq w W6 by rw[hW6.o];exact(B1.o.trans ((D2.o.trans (D5.o.mono (by omega))).mono (by omega))).setCell (by show w.heap.size≤w1.heap.size;omega) _);rw[←hW6.o] at XN6 XR6 ⊢;clear e0 e1 e2 n1 n2 n3 nz;obtain⟨m0,m1,m2,m3⟩:=XN6.o.four;obtain⟨r0,r1,r2,r3⟩:=XR6.o.four;have rz:=XR6.o.frozen;have EF:=aa (show ELA W2.drew.heap.size (mW W6 (w.heap.size+1) (.int .i64 (num+1)) (.slice none 0 0) (.slice a5 (sn+1) k5) (.bool false)) a5 (sn+1) (es++[⟨num+1,ops⟩]) from(E5.o.grown G6.o hnl).grown (fB (aq W6 (some (w.heap.size+1))) _ _ _ _) hrl);have BF:=aa (show Gq w (mW W6 (w.heap.size+1) (.int .i64 (num+1)) (.slice none 0 0) (.slice a5 (sn+1) k5) (.bool false)) from bY B6.o (by omega) _ _ _ _);go_wp2_with fail;obtain⟨t0,t1,t2,t3⟩:=(XR6.o.di (.int .i64 (num+1)) (.slice none 0 0) (.slice a5 (sn+1) k5) (.bool false)).four;exact bodyPost_ret (v:=.tuple #[.agg #[.int .i64 (num+1),.slice none 0 0,.slice a5 (sn+1) k5,.bool false],.nilIface]) (by simp[results,Tryz.results43,go_sem,t0,t1,t2,t3]) rfl ⟨_,by rw[HF.o]<;>rfl,by rw[HA.o,HFU.o];exact⟨none,0,0,a5,sn+1,k5,rfl,PL.nil _,fun h=>absurd h (by omega),EF.o.lower (by show w.heap.size≤W2.heap.size;omega),Gi _,K5.o⟩,BF⟩
 ·rw[aZ hb]
  have HB:=aa hb;have HF:=aa (Mx.Cf hb);clear hb;have HA:=aa (Mx.ov HF.o HB.o);go_wp2_with fail;obtain⟨t0,t1,t2,t3⟩:=(XR1.o.di (.int .i64 0) (.slice none 0 0) (.slice none 0 0) (.bool false)).four;exact bodyPost_ret (v:=.tuple #[.agg #[.int .i64 0,.slice none 0 0,.slice none 0 0,.bool false],.iface 28 (.int .i64 (Mx.aK ⟨num,ops,es,be⟩ n))]) (by simp[results,Tryz.results43,go_sem,t0,t1,t2,t3]) rfl ⟨_,by rw[HF.o,aZ HB.o]<;>rfl,by rw[HA.o];exact fR.zero _ _,aa (bY B1.o (by omega) _ _ _ _)⟩
end
section
variable {w1 w2 w:World} {n k:Int}
theorem iz (h:Below w1.drew.heap.size w1.drew w2):Gq w1 w2:=(Below.refl _ _).drew.trans h
theorem fS {o:Obj} (h:Below (w1.alloc o).drew.heap.size (w1.alloc o).drew w2):Gq w1 w2:=(af w1 o).drew.trans (h.mono (by show w1.heap.size≤(w1.alloc o).heap.size;simp))
namespace Mx
def dropped (b:Bu) (n k:Int):Bu:=if cW b n k=0 then cE b k else zBu
theorem tx {b:Bu} {j:Int} (h:cW b n k=j) (hk:j≠0):dropped b n k=zBu:=by rw[dropped,if_neg (by rw[h];exact hk)]
theorem nD {b:Bu} (h:cW b n k=0):dropped b n k=cE b k:=by rw[dropped,if_pos h]
theorem uV {b:Bu} (h:cW b n k=0):aK b n=0∧0≤k∧k≤b.num:=by
 unfold cW at h;split at h
 ·next h1 =>
  split at h
  ·omega
  ·exact⟨h1,by omega,by omega⟩
 ·omega
theorem lB {b:Bu}:(aJ b k).length≤b.se.length:=by
 unfold aJ;rw[List.length_drop];omega
theorem lC {b:Bu}:∀ e∈aJ b k,e∈b.se:=fun _ he=>List.mem_of_mem_drop he
end Mx
theorem tkw {P:Program} {ops:Array Oper} {Q:Exit→Act→World→Prop} {md:Region.Mode} {S:World→Prop} (i:Nat) {oi:Oper} {v:Value} {fuel:Nat} {listed:Array Bool} {a:Act} (h:wpAnyH P md ops Q S fuel (listed.setIfInBounds i true) (a.put oi.dst v) w) (hS:S w)
 (hi:ops[i]?=some oi:=by rfl) (hy:YieldsIf P ops S oi v a:=by first|exact Or.inr ⟨by rfl,rfl⟩|exact Or.inl ⟨by rfl,fun w hSw=>by(try dsimp only at hSw);go_simp;first|done|with_reducible rfl⟩)
 (hs:Region.noSelect ops=true:=by kernel_rfl) (hf:Region.free md ops listed i=true:=by kernel_rfl) (hr:(Region.ready md ops listed).contains i=true:=by kernel_rfl)
 (hQ:∀ c a w,Q (.panic c) (a.put oi.dst v) w→Q (.panic c) a w:=by exact fun _ _ _ h=>h):wpAnyH P md ops Q S (fuel+1) listed a w:=wpAnyH_take hi hs hf hr hQ hy hS h
theorem dr3 {num:Int} {oa sa a2:Option Addr} {on oc sn sc k2 g:Nat} {be bq:Bool} {ops:List Pt} {es KE:List Ep} {W:World} (HD:Hid (Mx.cW ⟨num,ops,es,be⟩ n k=0∧Mx.dropped ⟨num,ops,es,be⟩ n k=⟨num,ops,KE,bq⟩)) (HKB:Hid (∀ w,EL w sa sn es→Calls Tryz.prog 147 #[.agg #[.int .i64 num,.slice oa on oc,.slice sa sn sc,.bool be],.int .i64 k] w (fun e w'=>∃ a' c',e=.returned (.slice a' KE.length c')∧Hid (EL w' a' KE.length KE)∧Hid (Gq w w')))) (HKL:Hid (KE.length≤1000∧∀ e∈KE,e.aI.length≤1000))
 (XB:Hid (Bx W w.heap.size #[.int .i64 num,.slice oa on oc,.slice sa sn sc,.bool be] 101)) (XR:Hid (Bx W (w.heap.size+1) #[.int .i64 0,.slice none 0 0,.slice none 0 0,.bool false] 101)) (XN:Hid (Bx W g #[.int .i64 num,.slice a2 on k2,.slice none 0 0,.bool bq] 101)) (HE:Hid (EL W sa sn es)) (P3:Hid (PL W a2 on ops)) (C2:Hid (on≤k2)) (A3:Hid (0<on→∀ p,a2=some p→w.heap.size+1<p.block∧p.block≠g)) (B3:Hid (Gq w W)) (hg:w.heap.size+1<g) {u0 u1 u4 u5 u8 Iy Il Iv Ik Ho Gv Gw Gx Gy Gz GC GD GH GI GJ GK GL GM GO GP GQ GR GS GU GV GX GY GZ:Value} :
 aB Tryz.f125 (fun e w'=>∃ v,e=.returned (.tuple #[v,bt (Mx.cW ⟨num,ops,es,be⟩ n k)])∧Hid (fR w.heap.size w' v (Mx.dropped ⟨num,ops,es,be⟩ n k))∧Hid (Gq w w')) 3 ⟨#[u0,u1,.int .i64 k,.pointer (some ⟨w.heap.size,0,none⟩),u4,u5,.pointer (some ⟨(w.heap.size+1),0,none⟩),.nilIface,u8,.pointer (some ⟨g,0,none⟩),Iy,Il,Iv,Ik,Ho,Gv,Gw,Gx,Gy,Gz,GC,GD,GH,GI,GJ,GK,GL,GM,GO,GP,GQ,GR,GS,GU,GV,GX,GY,GZ],[]⟩ W:=by
 have hr3:w.heap.size+1<W.heap.size:=XR.o.lt;have hg3:g<W.heap.size:=XN.o.lt;have hgr:¬g=w.heap.size+1:=by omega
 refine aL (c:=.seq _ (.seq _ .ret)) rfl ?_;obtain⟨b0,b1,b2,b3⟩:=XB.o.four;go_wp2_with fail;refine(HKB.o W HE.o).mono ?_;rintro e w4 ⟨a4,k4,rfl,E4,B4⟩;clear b0 b1 b2 b3;go_wp2_with fail;refine(lv a4 KE.length k4 KE w4 E4.o HKL.o.1 HKL.o.2).mono ?_;rintro e w5 ⟨a5,k5,rfl,O5,B5⟩;have D5:=aa (show Gq W w5 from B4.o.trans (B5.o.mono B4.o.size));have XN5:=aa (XN.o.later D5.o hg3);have XR5:=aa (XR.o.later D5.o hr3);have F5:=aa (O5.o.full (Gi _));have hg4:g<w4.heap.size:=Gf hg3 B4.o.size;have hr4:w.heap.size+1<w4.heap.size:=Gf hr3 B4.o.size;obtain⟨W6,hW6⟩:∃ W6:World,Hid (W6=w5.setCell ⟨g,2,none⟩ (.slice a5 KE.length k5)):=⟨_,rfl⟩
 have G6:=aa (show w5.grownBy W6 (some g) by rw[hW6.o];exact ak (aq _ _) _ _);have XR6:=aa (show Bx W6 (w.heap.size+1) #[.int .i64 0,.slice none 0 0,.slice none 0 0,.bool false] 101 by rw[hW6.o];exact XR5.o.other ⟨g,2,none⟩ _ (fun e=>hgr e.symm));have B6:=aa (show Gq w W6 by rw[hW6.o];exact(B3.o.trans (D5.o.mono (by omega))).setCell (by show w.heap.size≤g;omega) _);obtain⟨n0,n1,n2,n3⟩:=XN5.o.four;have nz:=XN5.o.frozen;obtain⟨r0,r1,r2,r3⟩:=XR5.o.four;have rz:=XR5.o.frozen;have hrg:¬w.heap.size+1=g:=fun e=>hgr e.symm
 have GF:=aa (fB (aq W6 (some (w.heap.size+1))) (.int .i64 num) (.slice a2 on k2) (.slice a5 KE.length k5) (.bool bq));have EF:=aa (((F5.o.1.grown G6.o hg4).grown GF.o hr4).lower (show w.heap.size≤_ by omega));have PF:=aa (((P3.o.later D5.o).grownBy G6.o (fun h0 p hp e=>(A3.o h0 p hp).2 (Gg e).symm)).grownBy GF.o (fun h0 p hp e=>by have h1:=(A3.o h0 p hp).1;have h2:w.heap.size+1=p.block:=Gg e;omega));go_wp2_with fail;rw[←hW6.o];obtain⟨t0,t1,t2,t3⟩:=(XR6.o.di (.int .i64 num) (.slice a2 on k2) (.slice a5 KE.length k5) (.bool bq)).four;exact bodyPost_ret (v:=.tuple #[.agg #[.int .i64 num,.slice a2 on k2,.slice a5 KE.length k5,.bool bq],.nilIface]) (by simp[results,Tryz.results125,go_sem,t0,t1,t2,t3]) rfl ⟨_,by rw[HD.o.1]<;>rfl,by rw[HD.o.2];exact⟨a2,on,k2,a5,KE.length,k5,rfl,PF.o,fun h0 p hp=>by have h1:=(A3.o h0 p hp).1;omega,EF.o,C2.o,F5.o.2⟩,aa (bY B6.o (by omega) _ _ _ _)⟩
theorem AJ (num:Int) (oa:Option Addr) (on oc:Nat) (sa:Option Addr) (sn sc:Nat) (be:Bool) (ops:List Pt) (es:List Ep) (n:Int) (k:Int) (w:World) (hp:PL w oa on ops) (he:EL w sa sn es) (hsm:Mx.small ops es) (hsc:sn≤sc) :
 Calls Tryz.prog 125 #[.agg #[.int .i64 num,.slice oa on oc,.slice sa sn sc,.bool be],.int .i64 n,.int .i64 k] w fun e w' =>
  ∃ v,e=.returned (.tuple #[v,bt (Mx.cW ⟨num,ops,es,be⟩ n k)])∧Hid (fR w.heap.size w' v (Mx.dropped ⟨num,ops,es,be⟩ n k))∧Hid (Gq w w'):=by
 obtain⟨w0,hw0⟩:∃ w0:World,Hid (w0=(w.alloc (.cells #[.int .i64 num,.slice oa on oc,.slice sa sn sc,.bool be] 101)).alloc (.cells #[.int .i64 0,.slice none 0 0,.slice none 0 0,.bool false] 101)):=⟨_,rfl⟩
 have XB:=aa (show Bx w0 w.heap.size #[.int .i64 num,.slice oa on oc,.slice sa sn sc,.bool be] 101 by rw[hw0.o];exact(Bx.new w _ _).alloc _);have XR:=aa (show Bx w0 (w.heap.size+1) #[.int .i64 0,.slice none 0 0,.slice none 0 0,.bool false] 101 by
  rw[hw0.o];have h:=Bx.new (w.alloc (.cells #[.int .i64 num,.slice oa on oc,.slice sa sn sc,.bool be] 101)) #[.int .i64 0,.slice none 0 0,.slice none 0 0,.bool false] 101;rw[World.size_alloc] at h;exact h)
 have B0:=aa (show Gq w w0 by rw[hw0.o];exact(af _ _).alloc (by simp) _);have HP0:=aa (hp.later B0.o);have HE0:=aa (he.later B0.o);have HEN:=aa he.1;have HPN:=aa hp.1;have HSM:=aa hsm;have hsn:sn≤1000:=by have:=he.1;have:=hsm.2.1;omega
 have hon:on≤1000:=by have:=hp.1;have:=hsm.2.2;omega
 clear hp he hsm;go_enter Tryz.func125,Tryz.ntmps125;change aB Tryz.f125 (fun e w'=>∃ v,e=.returned (.tuple #[v,bt (Mx.cW ⟨num,ops,es,be⟩ n k)])∧Hid (fR w.heap.size w' v (Mx.dropped ⟨num,ops,es,be⟩ n k))∧Hid (Gq w w')) 0 _ w;refine aj rfl ?_;intro K0 hK0;go_wp2_with fail;rw[←hw0.o];obtain⟨b0,b1,b2,b3⟩:=XB.o.four;refine Met.intro (aj rfl ?_);intro K1 hK1;go_wp2_with fail;clear b0 b1 b2 b3;refine(ja num oa on oc sa sn sc be ops es n k w0 HP0.o HE0.o).mono ?_;rintro e w1 ⟨rfl,hb1⟩;have XB1:=aa (XB.o.later hb1 XB.o.lt);have XR1:=aa (XR.o.later hb1 XR.o.lt);have B1:=aa (B0.o.trans (hb1.mono B0.o.size));have HP1:=aa (HP0.o.later hb1);have HE1:=aa (HE0.o.later hb1);clear hb1;have hr1:w.heap.size+1<w1.heap.size:=XR1.o.lt;have hr0:w.heap.size<w1.heap.size:=XB1.o.lt;have hrb:¬w.heap.size+1=w.heap.size:=by omega
 obtain⟨b0,b1,b2,b3⟩:=XB1.o.four;by_cases hb:Mx.cW ⟨num,ops,es,be⟩ n k=0
 ·have HF:=aa hb
  have HA:=aa (Mx.nD hb);obtain⟨hb1,hk0,hkn⟩:=Mx.uV hb;rw[hb,aG];clear hb;have HOK:=aa (Mx.bM hb1);have hnum:num≤2147483647:=HOK.o.1.2.2.2;have HPS:=aa (show ∀ e∈Mx.aJ ⟨num,ops,es,be⟩ k,e.aI.length≤1000 from fun e he=>by have:=HSM.o.1 e (Mx.lC e he);omega);have HKL:=aa (show(Mx.aJ ⟨num,ops,es,be⟩ k).length≤1000 by have h1:=Mx.lB (b:=⟨num,ops,es,be⟩) (k:=k);have h2:es.length=sn:=HEN.o;have h3:(Mx.aJ ⟨num,ops,es,be⟩ k).length≤es.length:=h1;omega);clear hb1;obtain⟨bq,hbq⟩:∃ bq:Bool,Hid (bq=(be && decide (k≠num))):=⟨_,rfl⟩
  have HDB:=aa (show Mx.cE ⟨num,ops,es,be⟩ k=⟨num,ops,Mx.aJ ⟨num,ops,es,be⟩ k,bq⟩ by unfold Mx.cE;rw[hbq.o]);obtain⟨KE,hKE⟩:∃ KE,Hid (KE=Mx.aJ ⟨num,ops,es,be⟩ k):=⟨_,rfl⟩
  rw[←hKE.o] at HDB HPS HKL;have HKX:=aa (And.intro HKL.o HPS.o);have KB:=fun(w:World) (he:EL w sa sn es)=>j3 num oa on oc sa sn sc be ⟨num,ops,es,be⟩ k w rfl he hsc hk0 hkn hnum hsn
  have HKB:=aa KB;clear KB;rw[←hKE.o] at HKB;have HD:=aa (And.intro HF.o (HA.o.trans HDB.o));cases be with
  | false =>
   obtain rfl:bq=false:=hbq.o;go_wp2_with fail;refine Met.intro (aj rfl ?_);intro K9 hK9;refine wp_region_held_drew (S:=fun w'=>w'.cell? ⟨w.heap.size,0,none⟩=some (.int .i64 num)∧w'.cell? ⟨w.heap.size,1,none⟩=some (.slice oa on oc)∧w'.cell? ⟨w.heap.size,3,none⟩=some (.bool false)) (by kernel_rfl) ?_ (fun hHeld=>?_)
   ·exact⟨b0,b1,b3⟩
   refine tkw 0 ?_ (by assumption);refine tkw 1 ?_ (by assumption);refine tkw 2 ?_ (by assumption);refine tkw 3 ?_ (by assumption);refine tkw 5 ?_ (by assumption);refine tkw 6 ?_ (by assumption);refine wpAnyH_ready (rs:=[4,14]) (by kernel_rfl) (by simp) ?_;refine AllReadyH.cons (o:=_) rfl (fun K hK=>?_) (AllReadyH.cons (o:=_) rfl (fun K hK=>?_) AllReadyH.nil)
   ·go_simp
    go_at_call 72
    refine(eG oa on oc ops w1.drew (HP1.o.later (Below.refl _ _).drew) hon).mono ?_;rintro e w2 ⟨a2,k2,rfl,P2,C2,A2,B2⟩;have D2:=aa (iz B2.o);have hs2:w.heap.size<w2.heap.size:=Gf hr0 D2.o.size;obtain⟨c0,c1,c2,c3⟩:=(XB1.o.later D2.o hr0).four;refine hK.out _ _ ⟨c0,c1,c3⟩ (fun hHeld=>?_);clear hK K;refine tkw 7 ?_ (by assumption);refine tkw 8 ?_ (by assumption);refine tkw 9 ?_ (by assumption);refine tkw 10 ?_ (by assumption);refine tkw 11 ?_ (by assumption);refine tkw 12 ?_ (by assumption);refine tkw 13 ?_ (by assumption);refine wpAnyH_ready (rs:=[14]) (by kernel_rfl) (by simp) ?_;refine AllReadyH.cons (o:=_) rfl (fun K hK=>?_) AllReadyH.nil;go_simp
    refine hK.out _ _ (by simp only[ao hs2];exact⟨c0,c1,c3⟩) (fun hHeld=>?_);clear hK K;refine wpAnyH_ready (rs:=[15]) (by kernel_rfl) (by simp) ?_;refine AllReadyH.cons (o:=_) rfl (fun K hK=>?_) AllReadyH.nil;go_simp
    refine hK.out _ _ (by simp only[ao hs2];exact⟨c0,c1,c3⟩) (fun hHeld=>?_);clear hK K;refine wpAnyH_done (by kernel_rfl) ?_ _;have D3:=aa (show Gq w1 (w2.alloc (.cells #[.int .i64 num,.slice a2 on k2,.slice none 0 0,.bool false] 101)) from D2.o.trans ((af w2 _).mono D2.o.size));have hsz:=D2.o.size;go_wp2_with fail;exact Met.intro (dr3 HD HKB HKX (aa (XB1.o.later D3.o hr0)) (aa (XR1.o.later D3.o hr1)) (aa (Bx.new w2 _ _)) (aa (HE1.o.later D3.o)) (aa (P2.o.later (af w2 _))) C2 (aa (fun h0 p hp=>⟨Gf hr1 (A2.o p hp),fun e=>by obtain⟨b,off,ha,hlt,_⟩:=P2.o.2.2.2 h0;rw[ha] at hp;cases hp;change b=w2.heap.size at e;omega⟩)) (aa (B1.o.trans (D3.o.mono B1.o.size))) (by omega))
   ·go_simp
    refine hK.out _ _ (by simp only[an,ao hr0];exact⟨b0,b1,b3⟩) (fun hHeld=>?_);clear hK K;refine wpAnyH_ready (rs:=[4]) (by kernel_rfl) (by simp) ?_;refine AllReadyH.cons (o:=_) rfl (fun K hK=>?_) AllReadyH.nil;go_simp
    go_at_call 72
    refine(eG oa on oc ops (w1.alloc (.cells #[.int .i64 0,.slice none 0 0,.slice none 0 0,.bool false] 101)).drew (HP1.o.later (af _ _).drew) hon).mono ?_;rintro e w2 ⟨a2,k2,rfl,P2,C2,A2,B2⟩;have D2:=aa (fS B2.o);have hs2:w.heap.size<w2.heap.size:=Gf hr0 D2.o.size;have hgb:¬w1.heap.size=w.heap.size:=(by omega)
    have XZ:=aa ((Bx.dj w1 #[.int .i64 0,.slice none 0 0,.slice none 0 0,.bool false] 101).later B2.o (by show w1.heap.size<(w1.alloc _).heap.size;simp));obtain⟨z0,z1,z2,z3⟩:=XZ.o.four;have zz:=XZ.o.frozen;obtain⟨c0,c1,c2,c3⟩:=(XB1.o.later D2.o hr0).four;refine hK.out _ _ ⟨c0,c1,c3⟩ (fun hHeld=>?_);clear hK K;refine tkw 7 ?_ (by assumption);refine tkw 8 ?_ (by assumption);refine tkw 9 ?_ (by assumption);refine tkw 10 ?_ (by assumption);refine tkw 11 ?_ (by assumption);refine tkw 12 ?_ (by assumption);refine tkw 13 ?_ (by assumption);refine wpAnyH_ready (rs:=[15]) (by kernel_rfl) (by simp) ?_;refine AllReadyH.cons (o:=_) rfl (fun K hK=>?_) AllReadyH.nil;go_simp
    refine hK.out _ _ (by simp only[aw hgb];exact⟨c0,c1,c3⟩) (fun hHeld=>?_);clear hK K;refine wpAnyH_done (by kernel_rfl) ?_ _;have D3:=aa (bY D2.o (Gi w1.heap.size) (.int .i64 num) (.slice a2 on k2) (.slice none 0 0) (.bool false));have A9:=aa (show ∀ p,a2=some p→w1.heap.size<p.block from fun p hp=>by have h1:(w1.alloc _).heap.size≤p.block:=A2.o p hp;rw[World.size_alloc] at h1;omega);clear z0 z1 z2 z3 zz;go_wp2_with fail;exact Met.intro (dr3 HD HKB HKX (aa (XB1.o.later D3.o hr0)) (aa (XR1.o.later D3.o hr1)) (aa (XZ.o.di _ _ _ _)) (aa (HE1.o.later D3.o)) (aa (P2.o.grownBy (fB (aq w2 (some w1.heap.size)) _ _ _ _) (fun _ p hp e=>by have h1:=A9.o p hp;have h2:w1.heap.size=p.block:=Gg e;omega))) C2 (aa (fun _ p hp=>by have h1:=A9.o p hp;exact⟨by omega,by omega⟩)) (aa (B1.o.trans (D3.o.mono B1.o.size))) hr1)
  | true =>
   by_cases hkn2:num=k
   ·obtain rfl:bq=false:=by rw[hbq.o,hkn2];simp
    subst hkn2;go_wp2_with fail;refine Met.intro (aj rfl ?_);intro K9 hK9;refine wp_region_held_drew (S:=fun w'=>w'.cell? ⟨w.heap.size,0,none⟩=some (.int .i64 num)∧w'.cell? ⟨w.heap.size,1,none⟩=some (.slice oa on oc)∧w'.cell? ⟨w.heap.size,3,none⟩=some (.bool true)) (by kernel_rfl) ?_ (fun hHeld=>?_)
    ·exact⟨b0,b1,b3⟩
    refine tkw 0 ?_ (by assumption);refine tkw 1 ?_ (by assumption);refine tkw 2 ?_ (by assumption);refine tkw 3 ?_ (by assumption);refine tkw 5 ?_ (by assumption);refine tkw 6 ?_ (by assumption);refine wpAnyH_ready (rs:=[4,14]) (by kernel_rfl) (by simp) ?_;refine AllReadyH.cons (o:=_) rfl (fun K hK=>?_) (AllReadyH.cons (o:=_) rfl (fun K hK=>?_) AllReadyH.nil)
    ·go_simp
     go_at_call 72
     refine(eG oa on oc ops w1.drew (HP1.o.later (Below.refl _ _).drew) hon).mono ?_;rintro e w2 ⟨a2,k2,rfl,P2,C2,A2,B2⟩;have D2:=aa (iz B2.o);have hs2:w.heap.size<w2.heap.size:=Gf hr0 D2.o.size;obtain⟨c0,c1,c2,c3⟩:=(XB1.o.later D2.o hr0).four;refine hK.out _ _ ⟨c0,c1,c3⟩ (fun hHeld=>?_);clear hK K;refine tkw 7 ?_ (by assumption);refine tkw 8 ?_ (by assumption);refine tkw 9 ?_ (by assumption);refine tkw 10 ?_ (by assumption);refine tkw 11 ?_ (by assumption);refine tkw 12 ?_ (by assumption);refine tkw 13 ?_ (by assumption);refine wpAnyH_ready (rs:=[14]) (by kernel_rfl) (by simp) ?_;refine AllReadyH.cons (o:=_) rfl (fun K hK=>?_) AllReadyH.nil;go_simp
     refine hK.out _ _ (by simp only[ao hs2];exact⟨c0,c1,c3⟩) (fun hHeld=>?_);clear hK K;refine wpAnyH_ready (rs:=[15]) (by kernel_rfl) (by simp) ?_;refine AllReadyH.cons (o:=_) rfl (fun K hK=>?_) AllReadyH.nil;go_simp
     refine hK.out _ _ (by simp only[ao hs2];exact⟨c0,c1,c3⟩) (fun hHeld=>?_);clear hK K;refine wpAnyH_done (by kernel_rfl) ?_ _;have D3:=aa (show Gq w1 (w2.alloc (.cells #[.int .i64 num,.slice a2 on k2,.slice none 0 0,.bool false] 101)) from D2.o.trans ((af w2 _).mono D2.o.size));have hsz:=D2.o.size;go_wp2_with fail;exact Met.intro (dr3 HD HKB HKX (aa (XB1.o.later D3.o hr0)) (aa (XR1.o.later D3.o hr1)) (aa (Bx.new w2 _ _)) (aa (HE1.o.later D3.o)) (aa (P2.o.later (af w2 _))) C2 (aa (fun h0 p hp=>⟨Gf hr1 (A2.o p hp),fun e=>by obtain⟨b,off,ha,hlt,_⟩:=P2.o.2.2.2 h0;rw[ha] at hp;cases hp;change b=w2.heap.size at e;omega⟩)) (aa (B1.o.trans (D3.o.mono B1.o.size))) (by omega))
    ·go_simp
     refine hK.out _ _ (by simp only[an,ao hr0];exact⟨b0,b1,b3⟩) (fun hHeld=>?_);clear hK K;refine wpAnyH_ready (rs:=[4]) (by kernel_rfl) (by simp) ?_;refine AllReadyH.cons (o:=_) rfl (fun K hK=>?_) AllReadyH.nil;go_simp
     go_at_call 72
     refine(eG oa on oc ops (w1.alloc (.cells #[.int .i64 0,.slice none 0 0,.slice none 0 0,.bool false] 101)).drew (HP1.o.later (af _ _).drew) hon).mono ?_;rintro e w2 ⟨a2,k2,rfl,P2,C2,A2,B2⟩;have D2:=aa (fS B2.o);have hs2:w.heap.size<w2.heap.size:=Gf hr0 D2.o.size;have hgb:¬w1.heap.size=w.heap.size:=(by omega)
     have XZ:=aa ((Bx.dj w1 #[.int .i64 0,.slice none 0 0,.slice none 0 0,.bool false] 101).later B2.o (by show w1.heap.size<(w1.alloc _).heap.size;simp));obtain⟨z0,z1,z2,z3⟩:=XZ.o.four;have zz:=XZ.o.frozen;obtain⟨c0,c1,c2,c3⟩:=(XB1.o.later D2.o hr0).four;refine hK.out _ _ ⟨c0,c1,c3⟩ (fun hHeld=>?_);clear hK K;refine tkw 7 ?_ (by assumption);refine tkw 8 ?_ (by assumption);refine tkw 9 ?_ (by assumption);refine tkw 10 ?_ (by assumption);refine tkw 11 ?_ (by assumption);refine tkw 12 ?_ (by assumption);refine tkw 13 ?_ (by assumption);refine wpAnyH_ready (rs:=[15]) (by kernel_rfl) (by simp) ?_;refine AllReadyH.cons (o:=_) rfl (fun K hK=>?_) AllReadyH.nil;go_simp
     refine hK.out _ _ (by simp only[aw hgb];exact⟨c0,c1,c3⟩) (fun hHeld=>?_);clear hK K;refine wpAnyH_done (by kernel_rfl) ?_ _;have D3:=aa (bY D2.o (Gi w1.heap.size) (.int .i64 num) (.slice a2 on k2) (.slice none 0 0) (.bool false));have A9:=aa (show ∀ p,a2=some p→w1.heap.size<p.block from fun p hp=>by have h1:(w1.alloc _).heap.size≤p.block:=A2.o p hp;rw[World.size_alloc] at h1;omega);clear z0 z1 z2 z3 zz;go_wp2_with fail;exact Met.intro (dr3 HD HKB HKX (aa (XB1.o.later D3.o hr0)) (aa (XR1.o.later D3.o hr1)) (aa (XZ.o.di _ _ _ _)) (aa (HE1.o.later D3.o)) (aa (P2.o.grownBy (fB (aq w2 (some w1.heap.size)) _ _ _ _) (fun _ p hp e=>by have h1:=A9.o p hp;have h2:w1.heap.size=p.block:=Gg e;omega))) C2 (aa (fun _ p hp=>by have h1:=A9.o p hp;exact⟨by omega,by omega⟩)) (aa (B1.o.trans (D3.o.mono B1.o.size))) hr1)
   ·obtain rfl:bq=true:=by rw[hbq.o];simp;exact fun h=>hkn2 h.symm
    have dk:(k != num)=true:=by simp;exact fun h=>hkn2 h.symm
    clear hkn2;go_wp2_with fail;refine Met.intro (aj rfl ?_);intro K9 hK9;refine wp_region_held_drew (S:=fun w'=>w'.cell? ⟨w.heap.size,0,none⟩=some (.int .i64 num)∧w'.cell? ⟨w.heap.size,1,none⟩=some (.slice oa on oc)∧w'.cell? ⟨w.heap.size,3,none⟩=some (.bool true)) (by kernel_rfl) ?_ (fun hHeld=>?_)
    ·exact⟨b0,b1,b3⟩
    refine tkw 0 ?_ (by assumption);refine tkw 1 ?_ (by assumption);refine tkw 2 ?_ (by assumption);refine tkw 3 ?_ (by assumption);refine tkw 5 ?_ (by assumption);refine tkw 6 ?_ (by assumption);refine wpAnyH_ready (rs:=[4,14]) (by kernel_rfl) (by simp) ?_;refine AllReadyH.cons (o:=_) rfl (fun K hK=>?_) (AllReadyH.cons (o:=_) rfl (fun K hK=>?_) AllReadyH.nil)
    ·go_simp
     go_at_call 72
     refine(eG oa on oc ops w1.drew (HP1.o.later (Below.refl _ _).drew) hon).mono ?_;rintro e w2 ⟨a2,k2,rfl,P2,C2,A2,B2⟩;have D2:=aa (iz B2.o);have hs2:w.heap.size<w2.heap.size:=Gf hr0 D2.o.size;obtain⟨c0,c1,c2,c3⟩:=(XB1.o.later D2.o hr0).four;refine hK.out _ _ ⟨c0,c1,c3⟩ (fun hHeld=>?_);clear hK K;refine tkw 7 ?_ (by assumption);refine tkw 8 ?_ (by assumption);refine tkw 9 ?_ (by assumption);refine tkw 10 ?_ (by assumption);refine tkw 11 ?_ (by assumption);refine tkw 12 ?_ (by assumption);refine tkw 13 ?_ (by assumption);refine wpAnyH_ready (rs:=[14]) (by kernel_rfl) (by simp) ?_;refine AllReadyH.cons (o:=_) rfl (fun K hK=>?_) AllReadyH.nil;go_simp
     refine hK.out _ _ (by simp only[ao hs2];exact⟨c0,c1,c3⟩) (fun hHeld=>?_);clear hK K;refine wpAnyH_ready (rs:=[15]) (by kernel_rfl) (by simp) ?_;refine AllReadyH.cons (o:=_) rfl (fun K hK=>?_) AllReadyH.nil;go_simp
     refine hK.out _ _ (by simp only[ao hs2];exact⟨c0,c1,c3⟩) (fun hHeld=>?_);clear hK K;refine wpAnyH_done (by kernel_rfl) ?_ _;have D3:=aa (show Gq w1 (w2.alloc (.cells #[.int .i64 num,.slice a2 on k2,.slice none 0 0,.bool true] 101)) from D2.o.trans ((af w2 _).mono D2.o.size));have hsz:=D2.o.size;go_wp2_with fail;exact Met.intro (dr3 HD HKB HKX (aa (XB1.o.later D3.o hr0)) (aa (XR1.o.later D3.o hr1)) (aa (Bx.new w2 _ _)) (aa (HE1.o.later D3.o)) (aa (P2.o.later (af w2 _))) C2 (aa (fun h0 p hp=>⟨Gf hr1 (A2.o p hp),fun e=>by obtain⟨b,off,ha,hlt,_⟩:=P2.o.2.2.2 h0;rw[ha] at hp;cases hp;change b=w2.heap.size at e;omega⟩)) (aa (B1.o.trans (D3.o.mono B1.o.size))) (by omega))
    ·go_simp
     refine hK.out _ _ (by simp only[an,ao hr0];exact⟨b0,b1,b3⟩) (fun hHeld=>?_);clear hK K;refine wpAnyH_ready (rs:=[4]) (by kernel_rfl) (by simp) ?_;refine AllReadyH.cons (o:=_) rfl (fun K hK=>?_) AllReadyH.nil;go_simp
     go_at_call 72
     refine(eG oa on oc ops (w1.alloc (.cells #[.int .i64 0,.slice none 0 0,.slice none 0 0,.bool false] 101)).drew (HP1.o.later (af _ _).drew) hon).mono ?_;rintro e w2 ⟨a2,k2,rfl,P2,C2,A2,B2⟩;have D2:=aa (fS B2.o);have hs2:w.heap.size<w2.heap.size:=Gf hr0 D2.o.size;have hgb:¬w1.heap.size=w.heap.size:=(by omega)
     have XZ:=aa ((Bx.dj w1 #[.int .i64 0,.slice none 0 0,.slice none 0 0,.bool false] 101).later B2.o (by show w1.heap.size<(w1.alloc _).heap.size;simp));obtain⟨z0,z1,z2,z3⟩:=XZ.o.four;have zz:=XZ.o.frozen;obtain⟨c0,c1,c2,c3⟩:=(XB1.o.later D2.o hr0).four;refine hK.out _ _ ⟨c0,c1,c3⟩ (fun hHeld=>?_);clear hK K;refine tkw 7 ?_ (by assumption);refine tkw 8 ?_ (by assumption);refine tkw 9 ?_ (by assumption);refine tkw 10 ?_ (by assumption);refine tkw 11 ?_ (by assumption);refine tkw 12 ?_ (by assumption);refine tkw 13 ?_ (by assumption);refine wpAnyH_ready (rs:=[15]) (by kernel_rfl) (by simp) ?_;refine AllReadyH.cons (o:=_) rfl (fun K hK=>?_) AllReadyH.nil;go_simp
     refine hK.out _ _ (by simp only[aw hgb];exact⟨c0,c1,c3⟩) (fun hHeld=>?_);clear hK K;refine wpAnyH_done (by kernel_rfl) ?_ _;have D3:=aa (bY D2.o (Gi w1.heap.size) (.int .i64 num) (.slice a2 on k2) (.slice none 0 0) (.bool true));have A9:=aa (show ∀ p,a2=some p→w1.heap.size<p.block from fun p hp=>by have h1:(w1.alloc _).heap.size≤p.block:=A2.o p hp;rw[World.size_alloc] at h1;omega);clear z0 z1 z2 z3 zz;go_wp2_with fail;exact Met.intro (dr3 HD HKB HKX (aa (XB1.o.later D3.o hr0)) (aa (XR1.o.later D3.o hr1)) (aa (XZ.o.di _ _ _ _)) (aa (HE1.o.later D3.o)) (aa (P2.o.grownBy (fB (aq w2 (some w1.heap.size)) _ _ _ _) (fun _ p hp e=>by have h1:=A9.o p hp;have h2:w1.heap.size=p.block:=Gg e;omega))) C2 (aa (fun _ p hp=>by have h1:=A9.o p hp;exact⟨by omega,by omega⟩)) (aa (B1.o.trans (D3.o.mono B1.o.size))) hr1)
 ·rw[aZ hb]
  have HB:=aa hb;have HF:=aa (show Mx.cW ⟨num,ops,es,be⟩ n k=Mx.cW ⟨num,ops,es,be⟩ n k from rfl);clear hb;have HA:=aa (Mx.tx HF.o HB.o);obtain⟨r0,r1,r2,r3⟩:=XR1.o.four;have rz:=XR1.o.frozen;go_wp2_with fail;obtain⟨t0,t1,t2,t3⟩:=(XR1.o.di (.int .i64 0) (.slice none 0 0) (.slice none 0 0) (.bool false)).four;exact bodyPost_ret (v:=.tuple #[.agg #[.int .i64 0,.slice none 0 0,.slice none 0 0,.bool false],.iface 28 (.int .i64 (Mx.cW ⟨num,ops,es,be⟩ n k))]) (by simp[results,Tryz.results125,go_sem,t0,t1,t2,t3]) rfl ⟨_,by rw[aZ HB.o]<;>rfl,by rw[HA.o];exact fR.zero _ _,aa (bY B1.o (by omega) _ _ _ _)⟩
end
section
variable {n k:Int}
namespace Mx
def cn (b:Bu) (n k:Int):Bool:=decide (cW b n k=0) && decide (b.num-k≤(aJ b k).length)
def bF (b:Bu) (n k:Int):Ep:=if cn b n k then ⟨b.num,dW (aJ b k)⟩ else ⟨0,[]⟩
theorem Ac {b:Bu} (h:cW b n k≠0):cn b n k=false∧bF b n k=⟨0,[]⟩:=by
 have h1:cn b n k=false:=by unfold cn;simp[h]
 exact⟨h1,by unfold bF;rw[h1];rfl⟩
theorem Aa {b:Bu} (h:((aJ b k).length:Int)<b.num-k):cn b n k=false∧bF b n k=⟨0,[]⟩:=by
 have h1:cn b n k=false:=by unfold cn;rw[show decide (b.num-k≤(aJ b k).length)=false by simp;omega];simp
 exact⟨h1,by unfold bF;rw[h1];rfl⟩
theorem Ce {b:Bu} (h:cW b n k=0) (h2:¬((aJ b k).length:Int)<b.num-k):cn b n k=true∧bF b n k=⟨b.num,dW (aJ b k)⟩:=by
 have h1:cn b n k=true:=by unfold cn;simp[h];omega
 exact⟨h1,by unfold bF;rw[h1];rfl⟩
def ic (es:List Ep):List (Option B8):=dD gU (es.flatMap (·.aI))
theorem ug {es:List Ep} {j:Nat} {e:Ep} (h:es[j]?=some e):ic (es.take (j+1))=dD (ic (es.take j)) e.aI:=by
 unfold ic;rw[aN _ _ _ h,List.flatMap_append,lR];simp
theorem gu {b:Bu} (h:fh b n=true) (hn:n≤32):∀ e∈aJ b k,∀ q∈e.aI,0≤q.at_∧q.at_<32:=by
 intro e he q hq;obtain⟨i,hi⟩:=List.mem_iff_getElem?.1 (lC e he);exact lP (oe (iR (bW h).2.2 hi).1 hn) q hq
theorem DE {es:List Ep} (h:∀ e∈es,∀ q∈e.aI,0≤q.at_∧q.at_<32):aQ 0 (ic es)=dW es:=by
 unfold ic dW;exact qh (fun q hq=>by
  obtain⟨e,he,hq'⟩:=List.mem_flatMap.1 hq;exact h e he q hq')
end Mx
theorem Ad (num:Int) (oa:Option Addr) (on oc:Nat) (sa:Option Addr) (sn sc:Nat) (be:Bool) (ops:List Pt) (es:List Ep) (n:Int) (k:Int) (w:World) (hp:PL w oa on ops) (he:EL w sa sn es) (hsm:Mx.small ops es) (hsc:sn≤sc) :
 Calls Tryz.prog 134 #[.agg #[.int .i64 num,.slice oa on oc,.slice sa sn sc,.bool be],.int .i64 n,.int .i64 k] w fun e w' =>
  ∃ (pa:Option Addr) (pn pk:Nat),e=.returned (.tuple #[.agg #[.int .i64 (Mx.bF ⟨num,ops,es,be⟩ n k).num,.slice pa pn pk],.bool (Mx.cn ⟨num,ops,es,be⟩ n k),bt (Mx.cW ⟨num,ops,es,be⟩ n k)])∧Hid (PL w' pa pn (Mx.bF ⟨num,ops,es,be⟩ n k).aI∧∀ p,pa=some p→w.heap.size≤p.block)∧Hid (Gq w w'):=by
 obtain⟨w0,hw0⟩:∃ w0:World,Hid (w0=(w.alloc (.cells #[.int .i64 num,.slice oa on oc,.slice sa sn sc,.bool be] 101)).alloc (.cells #[.int .i64 0,.slice none 0 0] 164)):=⟨_,rfl⟩
 have XB:=aa (show Bx w0 w.heap.size #[.int .i64 num,.slice oa on oc,.slice sa sn sc,.bool be] 101 by rw[hw0.o];exact(Bx.new w _ _).alloc _);have XR:=aa (show Bx w0 (w.heap.size+1) #[.int .i64 0,.slice none 0 0] 164 by
  rw[hw0.o];have h:=Bx.new (w.alloc (.cells #[.int .i64 num,.slice oa on oc,.slice sa sn sc,.bool be] 101)) #[.int .i64 0,.slice none 0 0] 164;rw[World.size_alloc] at h;exact h)
 have B0:=aa (show Gq w w0 by rw[hw0.o];exact(af _ _).alloc (by simp) _);have HP0:=aa (hp.later B0.o);have HE0:=aa (he.later B0.o);have HEN:=aa he.1;have HPN:=aa hp.1;have HSM:=aa hsm;have hsn:sn≤1000:=by have:=he.1;have:=hsm.2.1;omega
 have hon:on≤1000:=by have:=hp.1;have:=hsm.2.2;omega
 clear hp he hsm;go_enter Tryz.func134,Tryz.ntmps134;go_wp2_with fail;rw[←hw0.o];refine(ja num oa on oc sa sn sc be ops es n k w0 HP0.o HE0.o).mono ?_;rintro e w1 ⟨rfl,hb1⟩;have XB1:=aa (XB.o.later hb1 XB.o.lt);have XR1:=aa (XR.o.later hb1 XR.o.lt);have B1:=aa (B0.o.trans (hb1.mono B0.o.size));have HP1:=aa (HP0.o.later hb1);have HE1:=aa (HE0.o.later hb1);clear hb1;have hr1:w.heap.size+1<w1.heap.size:=XR1.o.lt;have hr0:w.heap.size<w1.heap.size:=XB1.o.lt;have hrb:¬w.heap.size+1=w.heap.size:=by omega
 obtain⟨b0,b1,b2,b3⟩:=XB1.o.four;obtain⟨r0,r1⟩:=XR1.o.pair;have rz:=XR1.o.frozen;by_cases hb:Mx.cW ⟨num,ops,es,be⟩ n k=0
 ·have HF:=aa hb
  obtain⟨hb1,hk0,hkn⟩:=Mx.uV hb;rw[hb,aG];clear hb;have HOK:=aa (Mx.bM hb1);have hnum:num≤2147483647:=HOK.o.1.2.2.2;have HKL:=aa (show(Mx.aJ ⟨num,ops,es,be⟩ k).length≤1000 by have h1:=Mx.lB (b:=⟨num,ops,es,be⟩) (k:=k);have h2:es.length=sn:=HEN.o;have h3:(Mx.aJ ⟨num,ops,es,be⟩ k).length≤es.length:=h1;omega);have HRI:=aa (Mx.gu (k:=k) HOK.o.2.2 HOK.o.1.2.1);have HPE:=aa (Mx.DE HRI.o);clear hb1;have KB:=fun(w:World) (he:EL w sa sn es)=>j3 num oa on oc sa sn sc be ⟨num,ops,es,be⟩ k w rfl he hsc hk0 hkn hnum hsn
  have HKB:=aa KB;clear KB;have HFAR:=aa (Mx.Aa (b:=⟨num,ops,es,be⟩) (n:=n) (k:=k));have HOKS:=aa (Mx.Ce (b:=⟨num,ops,es,be⟩) (n:=n) (k:=k) HF.o);obtain⟨KE,hKE⟩:∃ KE,Hid (KE=Mx.aJ ⟨num,ops,es,be⟩ k):=⟨_,rfl⟩
  rw[←hKE.o] at HKB HKL HRI HPE HFAR HOKS;obtain⟨KN,hKN⟩:∃ KN:Nat,Hid (KN=KE.length):=⟨_,rfl⟩
  rw[←hKN.o] at HKB HKL HFAR HOKS;go_wp2_with fail;refine(HKB.o w1 HE1.o).mono ?_;rintro e w2 ⟨a2,k2,rfl,E2,B2⟩;have C2:=aa (B1.o.trans (B2.o.mono B1.o.size));have XB2:=aa (XB1.o.later B2.o hr0);have XR2:=aa (XR1.o.later B2.o hr1);have hr2:w.heap.size+1<w2.heap.size:=XR2.o.lt;have hb2:w.heap.size<w2.heap.size:=XB2.o.lt;have hkl:KN≤1000:=HKL.o;clear b0 b1 b2 b3 r0 r1 rz;obtain⟨b0,b1,b2,b3⟩:=XB2.o.four;obtain⟨r0,r1⟩:=XR2.o.pair;have rz:=XR2.o.frozen;by_cases hfar:(KN:Int)<num-k
  ·have df:decide ((KN:Int)<num-k)=true:=by simpa using hfar
   have HSN:=aa (HFAR.o hfar);go_wp2_with fail;obtain⟨t0,t1⟩:=(XR2.o.fD (.int .i64 0) (.slice none 0 0)).pair;exact bodyPost_ret (v:=.tuple #[.agg #[.int .i64 0,.slice none 0 0],.bool false,.nilIface]) (by simp[results,Tryz.results134,go_sem,t0,t1]) rfl ⟨none,0,0,by rw[HSN.o.1,HSN.o.2,HF.o]<;>rfl,by rw[HSN.o.2];exact⟨PL.nil _,fun p hp=>by cases hp⟩,aa (dM C2.o (by omega) _ _)⟩
  ·have df:decide ((KN:Int)<num-k)=false:=by simpa using hfar
   have HSN:=aa (HOKS.o (by omega));clear hfar;have hz:=mB;go_wp2_with fail;clear hz;obtain⟨W3,hW3⟩:∃ W3:World,Hid (W3=w2.alloc (.cells Zc 157)):=⟨_,rfl⟩
   rw[←hW3.o];have L3:=aa (show LB W3 w2.heap.size Mx.gU by rw[hW3.o];exact LB.new w2);have D3:=beA hW3;clear b0 b1 b2 b3 r0 r1 rz;go_loopw [35] (fun t wr=>∃ j:Nat,j≤KN∧t=.int .i64 (j:Int)∧Hid (LB wr w2.heap.size (Mx.ic (KE.take j)))∧Hid (Gq w2 wr)) (fun t _=>KN-(intOf t).toNat)
   case atStart=>exact⟨0,by omega,rfl,L3,D3⟩
   case round =>
    obtain⟨j,hj,rfl,hL,hB⟩:=hrel;by_cases hlt:j<KN
    ·obtain⟨b,off,e,ai,ni,ci,hab,hbl,hx,e0,e1,hp,hc⟩:=E2.o.at_ j hlt
     subst hab;obtain⟨z,ps⟩:=e;have f0:=(hB.o.cell (p:=⟨b,off+j*2,none⟩) hbl).trans e0;have f1:=(hB.o.cell (p:=⟨b,off+j*2+1,none⟩) hbl).trans e1;have HP:=aa hp;have HX:=aa hx;have HRJ:=aa (HRI.o _ (Gp hx));dsimp only at f0;clear hx hp e0 e1;obtain⟨W4,hW4⟩:∃ W4:World,Hid (W4=wr.alloc (.cells #[.int .i64 z,.slice ai ni ci] 164)):=⟨_,rfl⟩
     have D4:=beA hW4;have C4:=aa (hB.o.trans (D4.o.mono hB.o.size));have L4:=aa (hL.o.later D4.o hL.o.2.lt);have hgw:w2.heap.size<W4.heap.size:=L4.o.2.lt;go_wp2_with fail;rw[←hW4.o];refine(mY w2.heap.size ai ni ci ps _ W4 L4.o (HP.o.later C4.o) (HP.o.off (Gi _)) HRJ.o).mono ?_;rintro e w5 ⟨rfl,L5,G5⟩;have C5:=aa (C4.o.trans (jJ G5.o (Nat.le_of_lt hgw)));have LN:=aa (show LB w5 w2.heap.size (Mx.ic (KE.take (j+1))) by rw[Mx.ug HX.o];exact L5.o);clear f0 f1;go_wp2_with fail;go_roundw
     case rel=>exact⟨j+1,by omega,by go_num,LN,C5⟩
     case measure=>simp[intOf];omega
    ·have LF:=aa (show LB wr w2.heap.size (Mx.ic KE) by
      have h:=hL.o;rw[Gj (by rw[←hKN.o];omega)] at h;exact h)
     have XB4:=aa (XB2.o.later hB.o hb2);have XR4:=aa (XR2.o.later hB.o hr2);have hb4:w.heap.size<wr.heap.size:=XB4.o.lt;have hr4:w.heap.size+1<wr.heap.size:=XR4.o.lt;obtain⟨b0,b1,b2,b3⟩:=XB4.o.four;go_wp2_with fail;go_region_held3 (fun w'=>w'.cell? ⟨w.heap.size,0,none⟩=some (.int .i64 num))
      (first
        | with_reducible exact c0
        |(simp only[an];with_reducible exact b0)
        |(simp only[aw hrb];with_reducible exact c0))
      (first
        |(go_at_call 68;refine(sM w2.heap.size _ wr.drew LF.o.drew).mono ?_;rintro e w5 ⟨a5,k5,rfl,O5,B5⟩;have D5:=aa (iz B5.o);have c0:=(XB4.o.later D5.o hb4).cell 0;simp only[Gd,Gb] at c0;obtain⟨r0,r1⟩:=(XR4.o.later D5.o hr4).pair;have rz:=(XR4.o.later D5.o hr4).frozen))
     all_goals
      clear b0 b1 b2 b3 c0 r0 r1 rz;rw[HPE.o] at O5 ⊢;obtain⟨N5,hN5⟩:∃ N5:Nat,Hid (N5=(Mx.dW KE).length):=⟨_,rfl⟩
      rw[←hN5.o] at O5 ⊢;have F5:=aa (O5.o.full);have XR5:=aa (XR4.o.later D5.o hr4);have BF:=aa (show Gq w (ew w5 (w.heap.size+1) (.int .i64 num) (.slice a5 N5 k5)) from dM (C2.o.trans ((hB.o.trans (D5.o.mono hB.o.size)).mono (by omega))) (by omega) _ _);have PF:=aa (show PL (ew w5 (w.heap.size+1) (.int .i64 num) (.slice a5 N5 k5)) a5 N5 (Mx.dW KE) from F5.o.1.grownBy (iO (aq w5 (some (w.heap.size+1))) _ _) (fun _ p hp e=>by have h1:wr.heap.size≤p.block:=F5.o.2.2 p hp;have h2:w.heap.size+1=p.block:=Gg e;omega));go_wp2_with fail;obtain⟨t0,t1⟩:=(XR5.o.fD (.int .i64 num) (.slice a5 N5 k5)).pair;exact bodyPost_ret (v:=.tuple #[.agg #[.int .i64 num,.slice a5 N5 k5],.bool true,.nilIface]) (by simp[results,Tryz.results134,go_sem,t0,t1]) rfl ⟨a5,N5,k5,by rw[HSN.o.1,HSN.o.2,HF.o]<;>rfl,by rw[HSN.o.2];exact⟨PF.o,fun p hp=>by have h1:wr.heap.size≤p.block:=F5.o.2.2 p hp;omega⟩,BF⟩
 ·rw[aZ hb]
  have HB:=aa hb;clear hb;have HSN:=aa (Mx.Ac (b:=⟨num,ops,es,be⟩) HB.o);go_wp2_with fail;obtain⟨t0,t1⟩:=(XR1.o.fD (.int .i64 0) (.slice none 0 0)).pair;exact bodyPost_ret (v:=.tuple #[.agg #[.int .i64 0,.slice none 0 0],.bool false,.iface 28 (.int .i64 (Mx.cW ⟨num,ops,es,be⟩ n k))]) (by simp[results,Tryz.results134,go_sem,t0,t1]) rfl ⟨none,0,0,by rw[HSN.o.1,HSN.o.2,aZ HB.o]<;>rfl,by rw[HSN.o.2];exact⟨PL.nil _,fun p hp=>by cases hp⟩,aa (dM B1.o (by omega) _ _)⟩
end
section
variable {j k n num:Int}
namespace Mx
def sB (j:Int) (l:List Pt):Nat→Int
 | 0 => j
 | k + 1 => (l.getD k dP).at_ + 1
theorem qJ (l:List Pt) (k:Nat):sB 0 l k=ct l k:=by cases k<;>rfl
theorem DQ {l:List Pt} (h:Rk j l) {k:Nat} {p:Pt} (hp:l[k]?=some p):sB j l k≤p.at_:=by
 induction l generalizing j k with
 | nil => simp at hp
 | cons q l ih =>
  cases k with
  | zero =>
   simp at hp;subst hp;exact h.1
  | succ k =>
   have h1:=ih h.2.2 (k:=k) (by simpa using hp);cases k with
   | zero => exact h1
   | succ k => exact h1
theorem uZ {l:List Pt} (h:Rk 0 l) (hn:∀ q∈l,q.at_<n):bB n l=true:=by
 refine jy (fun k hk=>?_);have hp:l[k]?=some l[k]:=F0 hk;have h1:=DQ h hp;rw[qJ] at h1;unfold eD;rw[Ga,hp];simp only[Option.getD_some,Bool.and_eq_true,decide_eq_true_eq];exact⟨h1,hn _ (List.getElem_mem hk)⟩
theorem uY {l:List Pt} (h:bB n l=true):∀ q∈l,q.at_<n:=by
 intro q hq;obtain⟨k,hk⟩:=List.mem_iff_getElem?.1 hq;exact(kL h hk).2
theorem sJ {l:List Pt} {p q:Pt} (h:q∈cX l p):q=p∨q∈l:=by
 induction l with
 | nil =>
  simp[cX] at h;exact .inl h
 | cons x l ih =>
  rw[cX] at h;split at h
  ·rcases List.mem_cons.1 h with h|h
   ·exact .inr (by rw[h];exact List.mem_cons_self ..)
   ·rcases ih h with h|h
    ·exact .inl h
    ·exact .inr (List.mem_cons_of_mem _ h)
  ·split at h
   ·rcases List.mem_cons.1 h with h|h
    ·exact .inl h
    ·exact .inr (List.mem_cons_of_mem _ h)
   ·rcases List.mem_cons.1 h with h|h
    ·exact .inl h
    ·exact .inr h
theorem BX {l:List Pt} {p:Pt} (h:bB n l=true) (hn:n≤32) (h0:0≤p.at_) (h1:p.at_<n):bB n (cX l p)=true :=
 uZ (lY (oe h hn) h0 (by omega)) (fun q hq=>by
  rcases sJ hq with h2|h2
  ·rw[h2]
   exact h1
  ·exact uY h q h2)
theorem zS {l:List Pt} (h:Rk j l) (hj:j≤32):(l.length:Int)≤32-j:=by
 induction l generalizing j with
 | nil => simp; omega
 | cons p l ih =>
  have h1:=h.1;have h2:=h.2.1;have h3:=ih h.2.2 (by omega);rw[List.length_cons]
  push_cast
  omega
theorem sX {l:List Pt} (h:bB n l=true) (hn:n≤32):l.length≤32:=by
 have:=zS (oe h hn) (by omega);omega
theorem jY {b:Bu} (h1:b.be=true→b.se=[]) (h2:bB n b.op=true) (h3:ep b.se b.num n=true):fh b n=true:=by
 unfold fh;rw[h2,h3];cases hb:b.be with
 | false => rfl
 | true => rw [h1 hb]; rfl
theorem jU {b:Bu} (hn:1≤n∧n≤32) (h0:0≤b.num) (h1:b.num≤2147483647) (h2:b.se.length≤4) (h3:fh b n=true):aK b n=0:=xJ (by omega) (by omega) h3
theorem qw {b:Bu} (h:aK b n=0):b.op.length≤32∧b.se.length≤4∧∀ e∈b.se,e.aI.length≤32:=by
 obtain⟨h1,h2,h3⟩:=bM h;obtain⟨_,h4,h5⟩:=bW h3;refine⟨sX h4 h1.2.1,h2,fun e he=>?_⟩;obtain⟨i,hi⟩:=List.mem_iff_getElem?.1 he;exact sX (iR h5 hi).1 h1.2.1
theorem Cz {b:Bu} {p:Pt} (h:aK b n=0) (h0:0≤p.at_) (h1:p.at_<n):aK (fF b p) n=0:=by
 obtain⟨k1,k2,k3⟩:=bM h;obtain⟨g1,g2,g3⟩:=bW k3;exact jU ⟨k1.1,k1.2.1⟩ k1.2.2.1 k1.2.2.2 k2 (jY (b:=fF b p) g1 (BX g2 k1.2.1 h0 h1) g3)
theorem AT {es:List Ep} {ps:List Pt} (h:ep es num n=true) (hp:bB n ps=true):ep (es++[⟨num+1,ps⟩]) (num+1) n=true:=by
 have hl:=jd h;refine jc (by rw[Ge,List.length_singleton];push_cast;omega) (fun i hi=>?_);rw[Ge,List.length_singleton] at hi;unfold iF;by_cases hlt:i<es.length
 ·have he:es[i]?=some es[i]:=F0 hlt
  have h1:=iR h he;rw[Ga,Gm hlt,he,Ge,List.length_singleton];simp only[Option.getD_some,Bool.and_eq_true,decide_eq_true_eq];exact⟨h1.1,by rw[h1.2];push_cast;omega⟩
 ·obtain rfl:i=es.length:=by omega
  rw[Ga,Gl (Gi _),Nat.sub_self,Ge,List.length_singleton];simp only[Gb,Option.getD_some,Bool.and_eq_true,decide_eq_true_eq];exact⟨hp,by push_cast;omega⟩
theorem AS {es:List Ep} (h:ep es num n=true) (k:Nat):ep (es.drop k) num n=true:=by
 have hl:=jd h;refine jc (by rw[List.length_drop];omega) (fun i hi=>?_);rw[List.length_drop] at hi;have he:es[k+i]?=some (es[k+i]'(by omega)):=F0 (by omega);have h1:=iR h he;unfold iF;rw[Ga,List.getElem?_drop,he,List.length_drop];simp only[Option.getD_some,Bool.and_eq_true,decide_eq_true_eq];exact⟨h1.1,by rw[h1.2];omega⟩
theorem BZ {b:Bu} (h:aK b n=0) (hm:b.num≠2147483647):aK (bS b) n=0:=by
 obtain⟨k1,k2,k3⟩:=bM h;obtain⟨g1,g2,g3⟩:=bW k3;have hl:=jd g3;unfold bS;cases hf:dA b with
 | true => exact jU ⟨k1.1, k1.2.1⟩ (by show 0 ≤ b.num + 1; omega) (by show b.num + 1 ≤ _; omega) (Nat.zero_le _) (jY (fun _ => rfl) rfl (jc (by show (0 : Int) ≤ b.num + 1; omega) (fun i hi => absurd hi (by simp))))
 | false =>
  have h4:b.se.length≠4:=by
   unfold dA at hf;simp at hf;exact hf.2
  exact jU ⟨k1.1,k1.2.1⟩ (by show 0≤b.num+1;omega) (by show b.num+1≤_;omega) (by show(b.se++[_]).length≤4;rw[Ge,List.length_singleton];omega) (jY (fun hb=>by cases hb) rfl (AT g3 g2))
theorem AI {b:Bu} (h:aK b n=0):aK (cE b k) n=0:=by
 obtain⟨k1,k2,k3⟩:=bM h;obtain⟨g1,g2,g3⟩:=bW k3;refine jU ⟨k1.1,k1.2.1⟩ k1.2.2.1 k1.2.2.2 (Gn (lB (b:=b) (k:=k)) k2) (jY (fun hb=>?_) g2 (AS g3 _));unfold cE at hb;simp only[Bool.and_eq_true] at hb;show aJ b k=[]
 unfold aJ;rw[g1 hb.1,List.drop_nil]
def dI (l:List B8) (p:Pt):List B8:=l.set p.at_.toNat p.d
def lay (l:List B8) (ps:List Pt):List B8:=ps.foldl dI l
theorem mN (ps:List Pt) (l:List B8) (i:Nat) (d:B8) (h:∀ q∈ps,q.at_.toNat≠i):lay (l.set i d) ps=(lay l ps).set i d:=by
 induction ps generalizing l with
 | nil => rfl
 | cons q ps ih =>
  have h1:=h q (List.mem_cons_self ..);have h2:=ih (l.set q.at_.toNat q.d) (fun x hx=>h x (List.mem_cons_of_mem _ hx));unfold lay at h2 ⊢;rw[List.foldl_cons,List.foldl_cons];unfold dI at h2 ⊢;rw[List.set_comm _ _ (fun e=>h1 e.symm)];exact h2
theorem rW (hk:0≤k) {ps:List Pt} {p:Pt} (h:Rk k ps) (h0:0≤p.at_) (l:List B8):lay l (cX ps p)=dI (lay l ps) p:=by
 induction ps generalizing k l with
 | nil => rfl
 | cons q ps ih =>
  have h1:=h.1;rw[cX];split
  ·exact ih (by omega) h.2.2 _
  ·have hne:∀ x∈ps,x.at_.toNat≠p.at_.toNat:=fun x hx=>by have:=(lP h.2.2 x hx).1;omega
   split
   ·next he =>
    have h2:=mN ps (l.set q.at_.toNat q.d) p.at_.toNat p.d hne;have h3:(l.set q.at_.toNat q.d).set p.at_.toNat p.d=dI l p:=by unfold dI;rw[he,List.set_set]
    rw[h3] at h2;exact h2
   ·have h2:=mN (q::ps) l p.at_.toNat p.d (fun x hx=>by
     rcases List.mem_cons.1 hx with rfl|hx
     ·omega
     ·exact hne x hx)
    exact h2
theorem A0 (ps acc:List Pt) (l:List B8) (ha:Rk 0 acc) (h:∀ q∈ps,0≤q.at_∧q.at_<32):lay l (ps.foldl cX acc)=lay (lay l acc) ps:=by
 induction ps generalizing acc with
 | nil => rfl
 | cons p ps ih =>
  have hp:=h p (List.mem_cons_self ..);rw[List.foldl_cons,ih (cX acc p) (lY ha hp.1 hp.2) (fun q hq=>h q (List.mem_cons_of_mem _ hq)),rW (Int.le_refl 0) ha hp.1];rfl
theorem vY {es:List Ep} (l:List B8) (h:∀ e∈es,∀ q∈e.aI,0≤q.at_∧q.at_<32):lay l (dW es)=es.foldl (fun l e=>lay l e.aI) l:=by
 unfold dW;rw[A0 _ [] l trivial (fun q hq=>by
  obtain⟨e,he,hq'⟩:=List.mem_flatMap.1 hq;exact h e he q hq')]
 show lay l (es.flatMap (·.aI))=_
 induction es generalizing l with
 | nil => rfl
 | cons e es ih =>
  rw[List.flatMap_cons,List.foldl_cons];unfold lay;rw[List.foldl_append];exact ih _ (fun x hx=>h x (List.mem_cons_of_mem _ hx))
end Mx
end
section
variable {n k:Int}
namespace Mx
structure gk (n:Int) (b:Bu) (ae:List (List B8)) (now:List B8):Prop where
 may:aK b n=0
 len:(ae.length:Int)=b.num+1
 cur:∃ l,ae[b.num.toNat]?=some l∧now=lay l b.op
 eps:∀ (i:Nat) (e:Ep),b.se[i]?=some e→∃ x y,ae[(e.num-1).toNat]?=some x∧ae[e.num.toNat]?=some y∧y=lay x e.aI
theorem nN (hn:1≤n∧n≤32) {ae:List (List B8)} {h:Nat} (hl:ae.length=h+1) (hm:h≤2147483647) {l:List B8} (hs:ae[h]?=some l):gk n ⟨(h:Int),[],[],false⟩ ae l where
 may:=jU hn (by show(0:Int)≤(h:Int);omega) (by show(h:Int)≤_;omega) (Nat.zero_le _) (jY (fun h=>by cases h) rfl (jc (by show((0:Nat):Int)≤(h:Int);omega) (fun i hi=>absurd hi (by show ¬i<0;omega))))
 len:=by show(ae.length:Int)=(h:Int)+1;omega
 cur:=⟨l,by show ae[((h:Int)).toNat]?=_;rw[Int.toNat_natCast];exact hs,rfl⟩
 eps:=fun i e he=>by simp at he
theorem Ba {b:Bu} {ae:List (List B8)} {now:List B8} {p:Pt} (h:gk n b ae now) (h0:0≤p.at_) (h1:p.at_<n):gk n (fF b p) ae (dI now p) where
 may:=Cz h.may h0 h1
 len:=h.len
 cur:=by
  obtain⟨l,hl,hnow⟩:=h.cur;obtain⟨k1,_,k3⟩:=bM h.may;refine⟨l,hl,?_⟩;rw[hnow];exact(rW (Int.le_refl 0) (oe (bW k3).2.1 k1.2.1) h0 l).symm
 eps:=h.eps
theorem yx {b:Bu} {ae:List (List B8)} {now:List B8} (h:gk n b ae now) (hm:b.num≠2147483647):gk n (bS b) (ae++[now]) now where
 may:=BZ h.may hm
 len:=by
  have:=h.len;rw[Ge,List.length_singleton];show _=b.num+1+1
  push_cast
  omega
 cur:=by
  obtain⟨k1,_,_⟩:=bM h.may;have hl:=h.len;refine⟨now,?_,rfl⟩;show(ae++[now])[(b.num+1).toNat]?=some now
  rw[show(b.num+1).toNat=ae.length by omega,Gl (Gi _),Nat.sub_self];rfl
 eps:=by
  obtain⟨k1,_,k3⟩:=bM h.may;have hfol:=(bW k3).2.2;have hl:=h.len;have hfl:=jd hfol;intro i e he;have he':(if dA b then [] else b.se++[⟨b.num+1,b.op⟩]:List Ep)[i]?=some e:=he;cases hf:dA b with
  | true => rw [hf] at he'; simp at he'
  | false =>
   rw[hf] at he';change (b.se++[(⟨b.num+1,b.op⟩:Ep)])[i]?=some e at he';by_cases hi:i<b.se.length
   ·rw[Gm hi] at he'
    obtain⟨x,y,hx,hy,hxy⟩:=h.eps i e he';have hxl:=(Gh.1 hx).1;have hyl:=(Gh.1 hy).1;exact⟨x,y,by rw[Gm hxl];exact hx,by rw[Gm hyl];exact hy,hxy⟩
   ·have hlen:=(Gh.1 he').1
    rw[Ge,List.length_singleton] at hlen;obtain rfl:i=b.se.length:=by omega
    rw[Gl (Gi _),Nat.sub_self] at he';simp at he';subst he';obtain⟨l,hl2,hnow⟩:=h.cur;have hl3:=(Gh.1 hl2).1;refine⟨l,now,?_,?_,hnow⟩
    ·show(ae++[now])[(b.num+1-1).toNat]?=some l
     rw[show(b.num+1-1).toNat=b.num.toNat by omega,Gm hl3];exact hl2
    ·show(ae++[now])[(b.num+1).toNat]?=some now
     rw[show(b.num+1).toNat=ae.length by omega,Gl (Gi _),Nat.sub_self];rfl
theorem nO {b:Bu} {ae:List (List B8)} {now x:List B8} (h:gk n b ae now) (hk0:0≤k) (hkn:k≤b.num) (hs:cn b n k=true) (hx:ae[k.toNat]?=some x):ae[b.num.toNat]?=some (lay x (bF b n k).aI):=by
 obtain⟨k1,_,k3⟩:=bM h.may;have hfol:=(bW k3).2.2;have hri:=gu (k:=k) k3 k1.2.1;have hE:(bF b n k).aI=dW (aJ b k):=by unfold bF;rw[hs];rfl
 have hlen:b.num-k≤(aJ b k).length:=by
  unfold cn at hs;simp only[Bool.and_eq_true,decide_eq_true_eq] at hs;exact hs.2
 rw[hE,vY x hri];have hkl:(aJ b k).length=(b.num-k).toNat:=by
  unfold aJ at hlen ⊢;rw[List.length_drop] at hlen ⊢;unfold many at hlen ⊢;omega
 have key:∀ m,m≤(aJ b k).length→ae[k.toNat+m]?=some (((aJ b k).take m).foldl (fun l e=>lay l e.aI) x):=by
  intro m;induction m with
  | zero =>
   intro _;rw[Nat.add_zero];exact hx
  | succ m ih =>
   intro hm;have h1:=ih (by omega);have he:(aJ b k)[m]?=some ((aJ b k)[m]'(by omega)):=F0 (by omega);have he2:=he;unfold aJ at he2;rw[List.getElem?_drop] at he2;have hnum:=(iR hfol he2).2;obtain⟨y,z,hy,hz,hyz⟩:=h.eps _ _ he2;have hmany:(aJ b k).length=many b k:=by
    unfold aJ;rw[List.length_drop];unfold many;omega
   have hsl:many b k≤b.se.length:=by unfold many;omega
   have e1:((aJ b k)[m]'(by omega)).num=k+m+1:=by
    have h5:((aJ b k)[m]'(by omega)).num=b.num-b.se.length+1+((b.se.length-many b k+m:Nat):Int):=hnum;rw[h5];omega
   rw[aN _ _ _ he,List.foldl_append];have hz':ae[((aJ b k)[m]'(by omega)).num.toNat]?=some z:=hz;have hy':ae[(((aJ b k)[m]'(by omega)).num-1).toNat]?=some y:=hy;rw[e1] at hz' hy';rw[show(k+m+1-1:Int).toNat=k.toNat+m by omega] at hy';rw[show(k+m+1:Int).toNat=k.toNat+(m+1) by omega] at hz';rw[h1] at hy';have hyx:=Gg hy';rw[hz',hyz,←hyx];rfl
 have:=key (aJ b k).length (Gi _);rw[Gj (Gi _),hkl] at this;rw[←this];congr 1
 omega
theorem yw {b:Bu} {ae:List (List B8)} {now:List B8} (h:gk n b ae now):gk n (cE b k) ae now where
 may:=AI h.may
 len:=h.len
 cur:=h.cur
 eps:=fun i e he=>by
  have he':(aJ b k)[i]?=some e:=he;unfold aJ at he';rw[List.getElem?_drop] at he';exact h.eps _ e he'
theorem uf {b:Bu} (hb:aK b n=0) (hk0:0≤k) (hkn:k≤b.num):cn b n k=true↔b.num-(b.se.length:Int)≤k:=by
 have hfl:=jd (bW (bM hb).2.2).2.2;have hnm:cW b n k=0:=nR hb (by omega);unfold cn;rw[hnm];simp only[decide_true,Bool.true_and,decide_eq_true_eq];unfold aJ many;rw[List.length_drop];omega
end Mx
end
end Go.Proofs.YtbicgjafjjihdaaGreatDoor
