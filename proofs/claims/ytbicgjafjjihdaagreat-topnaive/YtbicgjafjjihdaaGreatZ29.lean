/- Part. -/
import Derived.Test.YtbicgjafjjihdaaGreatZ8
set_option maxHeartbeats 16000000
set_option maxRecDepth 100000
namespace Go.Proofs.YtbicgjafjjihdaaGreat
open Go.RowKit
section
variable {w:World} {base:Nat} {v:Value} {l:List Int}
theorem run_append_nil {P:Program} (base:Nat) (t ty e:TypeId) (i:TypeInfo) (size c:Nat) (ht:P.underlying t=some (.slice e)) (hi:P.info? e=some i)
 (v:Value) (n:Nat) (xs:List Value) (hown:w.ownsRow base e size v n xs):(Builtin.append_ #[t,t] ty #[v,.slice none 0 c]).run P w=.ok v w:=by
 have key:=hown.2;rcases key with ⟨h1,h2⟩|⟨g,cap,cur,h1,_,_,hle,_⟩
 ·subst h1 h2
  simp[Builtin.append_,Builtin.lenOf,Builtin.firstCells,sizeOf,typeInfo,hi,run_underlying ht]
 ·subst h1
  simp[Builtin.append_,Builtin.lenOf,Builtin.firstCells,sizeOf,typeInfo,hi,run_underlying ht,storeCells,hle]
theorem od (ty:TypeId) (base:Nat) (v:Value) (l0:List Int) (hown:aX w base v l0) (a:Option Addr) (n c:Nat) (l:List Int) (hl:ay w a n l) (h63:l0.length+n≤1000000) (hbase:base≤w.heap.size) :
 ∃ v' w',(Builtin.append_ #[46,46] ty #[v,.slice a n c]).run Tryz.prog w=.ok v' w'∧aX w' base v' (l0++l)∧w.grownBy w' v.ownBlock:=by
 obtain⟨i0,hi0,hz0,hz1,hz2⟩:=info_parts Tryz.info3;have hR:=hl.row;have hln:=hl.1;cases a with
 | none =>
  obtain⟨rfl,hx⟩:=fy hR;obtain rfl:l=[]:=List.eq_nil_of_length_eq_zero hln;exact⟨v,w,run_append_nil base 46 ty 3 i0 1 c Tryz.underlying46 hi0 v l0.length _ hown,by rw[List.append_nil];exact hown,⟨rfl,rfl,rfl,FG _,fun _ _ _=>rfl⟩⟩
 | some ad =>
  obtain⟨v',w',hr,hown',hg,_,_⟩:=run_append_own_at (P:=Tryz.prog) w base 46 ty 3 i0 _ 1 8 Tryz.underlying46 hi0 hz0 hz1 hz2 rfl (by decide) v l0.length _ hown ad n c (l.map (Value.int .i64)) hR.1 (fun j u hj=>by
   rcases Nat.eq_zero_or_pos n with h|h
   ·subst h
    rw[gh hR] at hj;simp at hj
   ·obtain⟨b,off,hb,hlt,hc⟩:=hR.2.2 h
    cases hb
    rw[Addr.add_lit];exact hc j u hj) (fun u hu=>by
   obtain⟨z,_,rfl⟩:=List.mem_map.1 hu;rfl) (by rw[aC];omega) (by omega) hbase
  refine⟨v',w',hr,?_,hg⟩;unfold aX;rw[Fy,List.map_append,hln];exact hown'
theorem ft {ops:Array Oper} {rest:List Oper} {o:Oper} {a:Act} {Q:Exit→Act→World→Prop} (hgd:o.guard=none) (s x:Operand)
 (ho:o.op=.call {callee:=.builtin .append,args:=#[s,x],argTypes:=#[46,46]}) (base:Nat) (v:Value) (l0:List Int) (hs:a.eval s=v) (hown:aX w base v l0) (xa:Option Addr) (n c:Nat) (l:List Int) (hx:a.eval x=.slice xa n c) (hl:ay w xa n l) (h63:l0.length+n≤1000000) (hbase:base≤w.heap.size)
 (h:∀ v' w',aX w' base v' (l0++l)→w.grownBy w' v.ownBlock→wpList Tryz.prog ops Q rest (a.put o.dst v') w') :
 wpList Tryz.prog ops Q (o::rest) a w:=by
 refine wpList_plain hgd fun K hK=>?_
 obtain⟨v',w',hr,h2,h3⟩:=od o.type base v l0 hown xa n c l hl h63 hbase;unfold Oper.wp execOp;simp only[ho,resolve,invoke,builtin,Sem.run_bind,Sem.run_pure,Result.andThen_ok,List.map_toArray,List.map_cons,List.map_nil,hs,hx,hr];exact hK _ _ (h v' w' h2 h3)
theorem aX.Fl (w:World) (x y z:Int):aX (w.alloc (.cells #[.int .i64 x,.int .i64 y,.int .i64 z] 3)) w.heap.size (.slice (some ⟨w.heap.size,0,none⟩) 3 3) [x,y,z] :=
 World.ownsRow_lit (base:=w.heap.size) (e:=3) (size:=1) w #[.int .i64 x,.int .i64 y,.int .i64 z] 3 (FG _) (by rw[aC];omega) rfl
theorem aX.ET (h:aX w base v l):∃ a c,v=.slice a l.length c∧l.length≤c∧ay w a l.length l∧∀ p,a=some p→base≤p.block:=by
 obtain⟨a,c,hv,hle,hr,hp⟩:=aB h;exact⟨a,c,hv,hle,ay.jZ rfl hr,hp⟩
theorem aX.blk (h:aX w base v l):∀ k,v.ownBlock=some k→base≤k∧k<w.heap.size:=World.ownsRow.lt h
theorem yJ (ses num kd:Int) (a1 a2:Option Addr) (n1 c1 n2 c2:Nat) (nm:List Int) (w:World) (h1:ay w a1 n1 nm) (hn1:n1≤1000) :
 Calls Tryz.prog 109 #[.int .i64 ses,.int .i64 num,.agg #[.int .i64 kd,.slice a1 n1 c1,.slice a2 n2 c2]] w fun e w'=>∃ xa xc,e=.returned (.agg #[.int .i64 1,.slice xa (n1+3) xc,.slice a2 n2 c2])∧Hid (ay w' xa (n1+3) (ses::num::kd::nm))∧Hid (Below w.heap.size w w'):=by
 obtain⟨W0,hW0⟩:∃ W0:World,Hid (W0=(w.alloc (.cells #[.int .i64 kd,.slice a1 n1 c1,.slice a2 n2 c2] 157)).alloc (.cells #[.int .i64 0,.slice none 0 0,.slice none 0 0] 157)):=⟨_,rfl⟩
 have X0:=aa (show Bx W0 w.heap.size #[.int .i64 kd,.slice a1 n1 c1,.slice a2 n2 c2] 157 by rw[hW0.o];exact(Bx.new w _ _).alloc _);have R0:=aa (show Bx W0 (w.heap.size+1) #[.int .i64 0,.slice none 0 0,.slice none 0 0] 157 by
  rw[hW0.o];have h:=Bx.new (w.alloc (.cells #[.int .i64 kd,.slice a1 n1 c1,.slice a2 n2 c2] 157)) #[.int .i64 0,.slice none 0 0,.slice none 0 0] 157;rw[World.size_alloc] at h;exact h)
 have D0:=aa (show Below w.heap.size w W0 by rw[hW0.o];exact(af _ _).alloc (by simp) _);obtain⟨W1,hW1⟩:∃ W1:World,Hid (W1=W0.alloc (.cells #[.int .i64 ses,.int .i64 num,.int .i64 kd] 3)):=⟨_,rfl⟩
 have D1:=beA hW1;have O1:=aa (show aX W1 W0.heap.size (.slice (some ⟨W0.heap.size,0,none⟩) 3 3) [ses,num,kd] by rw[hW1.o];exact aX.Fl W0 ses num kd);have I1:=aa ((h1.later D0.o).later D1.o);have HN:=aa h1.1;have hx0:w.heap.size<W0.heap.size:=X0.o.lt;have hr0:w.heap.size+1<W0.heap.size:=R0.o.lt;clear h1;obtain⟨b0,b1,b2⟩:=X0.o.three;go_enter Tryz.func109,Tryz.ntmps109;go_upto_region 1 with fail
 rw[←hW0.o];go_wp2_with (at_builtin;rw[←hW1.o];refine ft (w:=W1) rfl _ _ rfl W0.heap.size (.slice (some ⟨W0.heap.size,0,none⟩) 3 3) [ses,num,kd] rfl ?o1 a1 n1 c1 nm rfl ?o2 ?o3 ?o4 ?_);case o1=>exact O1.o
 case o2=>exact I1.o
 case o3=>simp;omega
 case o4=>exact D1.o.size
 intro v2 w2 hO2 hG2;have O2:=aa (show aX w2 W0.heap.size v2 (ses::num::kd::nm) from hO2);have D2:=aa (show Below W0.heap.size W0 w2 from D1.o.grown hG2 D1.o.size (fun i hi=>(O1.o.blk i hi).1));clear hO2 hG2;obtain⟨xa,xc,hv,_,hi2,ha2⟩:=O2.o.ET;have hlen:(ses::num::kd::nm).length=n1+3:=by simp[HN.o]
 rw[hlen] at hv hi2;subst hv;have I2:=aa hi2;have A2:=aa ha2;clear hi2 ha2 hlen;have X2:=aa (X0.o.later D2.o hx0);have R2:=aa (R0.o.later D2.o hr0);clear b0 b1 b2;obtain⟨b0,b1,b2⟩:=X2.o.three;obtain⟨r0,r1,r2⟩:=R2.o.three;have rz:=R2.o.frozen;have GF:=aa (bA (ar w2 (some (w.heap.size+1))) (.int .i64 1) (.slice xa (n1+3) xc) (.slice a2 n2 c2));have IF:=aa (I2.o.grownBy GF.o (fun _ p hp e=>by have h1:=A2.o p hp;have h2:w.heap.size+1=p.block:=FC e;omega));have BF:=aa (show Below w.heap.size w (cb w2 (w.heap.size+1) (.int .i64 1) (.slice xa (n1+3) xc) (.slice a2 n2 c2)) from aF (D0.o.trans (D2.o.mono D0.o.size)) (by omega) _ _ _);go_wp2_with fail;obtain⟨t0,t1,t2⟩:=(R2.o.aG (.int .i64 1) (.slice xa (n1+3) xc) (.slice a2 n2 c2)).three;exact bodyPost_ret (v:=.agg #[.int .i64 1,.slice xa (n1+3) xc,.slice a2 n2 c2]) (by simp[results,Tryz.results109,go_sem,t0,t1,t2]) rfl ⟨xa,xc,rfl,IF,BF⟩
end
section
variable {w:World} {a:Option Addr} {n base B:Nat} {l:List Int} {v:Value}
def BR (w:World) (a:Option Addr) (n:Nat) (l:List Int):Prop:=l.length=n∧cj w a n 1 (l.map (Value.int .u8))
theorem BR.later {w w':World} {a:Option Addr} {n:Nat} {l:List Int} (h:BR w a n l) (hb:Below w.heap.size w w'):BR w' a n l:=⟨h.1,h.2.later hb⟩
theorem BR.bytes (h:BR w a n l) (hb:∀ x∈l,0≤x∧x≤255):Bytes w a n l:=by
 obtain⟨h0,h1,h2,h3⟩:=h;refine⟨h0,h2,hb,fun hp=>?_⟩;obtain⟨b,off,ha,hlt,hc⟩:=h3 hp;refine⟨b,off,ha,fun i hi=>hc i _ ?_⟩;have hil:i<l.length:=by omega
 rw[List.getElem?_map,Ft hil,Fu,Ft hil];rfl
theorem Own.br (h:Own w base v l):∃ a c,v=.slice a l.length c∧l.length≤c∧BR w a l.length l∧∀ p,a=some p→base≤p.block:=by
 obtain⟨a,c,hv,hle,hr,hp⟩:=aB h;exact⟨a,c,hv,hle,⟨rfl,hr⟩,hp⟩
theorem BR.grownBy {w w':World} {a:Option Addr} {n:Nat} {l:List Int} {row:Option Nat} (h:BR w a n l) (hg:w.grownBy w' row) (hne:0<n→∀ p,a=some p→row≠some p.block):BR w' a n l:=by
 obtain⟨h0,h1,h2,h3⟩:=h;refine⟨h0,h1,h2,fun hp=>?_⟩;obtain⟨b,off,ha,hlt,hc⟩:=h3 hp;exact⟨b,off,ha,by have:=hg.size;omega,fun j u hj=>hg.cell (hc j u hj) (fun e=>hne hp _ ha e.symm)⟩
def Bn (w:World) (a:Option Addr) (k:Nat) (ls:List (List Int)):Prop :=
 ls.length=k∧k≤maxLen∧(0<k→∃ b off,a=some ⟨b,off,none⟩∧b<w.heap.size∧∀ i l,ls[i]?=some l→∃ ai ni ci,w.cell? ⟨b,off+i,none⟩=some (.slice ai ni ci)∧BR w ai ni l∧ni≤ci)
def bO (B:Nat) (w:World) (base:Nat) (v:Value) (ls:List (List Int)):Prop :=
 ∃ vs:List Value,w.ownsRow base 77 1 v ls.length vs∧∀ (i:Nat) (l:List Int),ls[i]?=some l→∃ (a:Option Addr) (n c:Nat),vs[i]?=some (.slice a n c)∧BR w a n l∧n≤c∧(0<n→∀ p,a=some p→v.ownBlock≠some p.block∧B≤p.block)
theorem Tryz.info77:(Tryz.prog.info? 77).map (fun i=>(i.zero,i.size,i.bytes))=some (some (.slice none 0 0),1,24):=by kernel_rfl
theorem bO.later {B:Nat} {w w':World} {base:Nat} {v:Value} {ls:List (List Int)} (h:bO B w base v ls) (hb:Below w.heap.size w w'):bO B w' base v ls:=by
 obtain⟨vs,h1,h2⟩:=h;refine⟨vs,bm h1 hb,fun i l hl=>?_⟩;obtain⟨a,n,c,e1,e2,e3⟩:=h2 i l hl;exact⟨a,n,c,e1,e2.later hb,e3⟩
theorem bO.bn {ls:List (List Int)} (h:bO B w base v ls):∃ a c,v=.slice a ls.length c∧ls.length≤c∧Bn w a ls.length ls:=by
 obtain⟨vs,h1,h2⟩:=h;obtain⟨a,c,hv,hle,hr,_⟩:=aB h1;refine⟨a,c,hv,hle,rfl,hr.2.1,fun h0=>?_⟩;obtain⟨b,off,ha,hlt,hc⟩:=hr.2.2 h0;refine⟨b,off,ha,hlt,fun i l hl=>?_⟩;obtain⟨ai,ni,ci,e1,e2,e3,_⟩:=h2 i l hl;exact⟨ai,ni,ci,hc _ _ e1,e2,e3⟩
theorem bO.lt {B:Nat} {w:World} {base:Nat} {v:Value} {ls:List (List Int)} (h:bO B w base v ls):∀ k,v.ownBlock=some k→base≤k∧k<w.heap.size:=by
 obtain⟨vs,h1,_⟩:=h;exact World.ownsRow.lt h1
theorem bO.one (hb:base≤w.heap.size) {c:Nat} (hl:BR w a n l) (hc:n≤c) (hp:0<n→∀ p,a=some p→B≤p.block) :
 bO B (w.alloc (.cells #[.slice a n c] 77)) base (.slice (some ⟨w.heap.size,0,none⟩) 1 1) [l]:=by
 refine⟨[.slice a n c],World.ownsRow_lit (base:=base) (e:=77) (size:=1) w #[.slice a n c] 1 hb (by unfold maxLen;omega) rfl,fun i l' hl'=>?_⟩
 match i,hl' with
 | 0, hl' =>
  simp at hl';subst hl';refine⟨a,n,c,rfl,hl.later (af _ _),hc,fun h0 p hp'=>⟨fun e=>?_,hp h0 p hp'⟩⟩;obtain⟨b,off,ha,hlt,_⟩:=hl.2.2.2 h0;rw[ha] at hp';cases hp'
  simp[Value.ownBlock] at e;omega
 | i + 1, hl' => simp at hl'
theorem mX {ops:Array Oper} {rest:List Oper} {o:Oper} {a:Act} {Q:Exit→Act→World→Prop} (hgd:o.guard=none) (s x:Operand)
 (ho:o.op=.call {callee:=.builtin .append,args:=#[s,x],argTypes:=#[115,115]}) (B base:Nat) (ls:List (List Int)) (hown:bO B w base (a.eval s) ls)
 (ad:Option Addr) (n c:Nat) (l:List Int) (hl:BR w ad n l) (hc:n≤c) (hp:0<n→∀ p,ad=some p→(a.eval s).ownBlock≠some p.block∧B≤p.block)
 (hx:a.eval x=.slice (some ⟨w.heap.size,0,none⟩) 1 1) (h63:ls.length≤1000000) (hbase:base≤w.heap.size)
 (h:∀ v' w',bO B w' base v' (ls++[l])→w.grownBy w' (a.eval s).ownBlock→wpList Tryz.prog ops Q rest (a.put o.dst v') w') :
 wpList Tryz.prog ops Q (o::rest) a (w.alloc (.cells #[.slice ad n c] 77)):=by
 obtain⟨vs,h1,h2⟩:=hown;obtain⟨i0,hi0,hz0,hz1,hz2⟩:=info_parts Tryz.info77;refine wpList_append_own_at _ hgd s x 115 ho base 77 i0 _ 1 24 Tryz.underlying115 hi0 hz0 hz1 hz2 rfl (by decide) (a.eval s) ls.length vs rfl (World.ownsRow.alloc h1 _) ⟨w.heap.size,0,none⟩ 1 1 [.slice ad n c] hx rfl (fun j u hj=>?_) (by simp[Value.oneCell']) (by unfold maxLen;omega) (by omega) (by simp;omega) ?_
 ·rw[Addr.add_lit,World.cell?_alloc_new]
  simpa using hj
 ·intro v' w' hown' hg _ hat
  have hg':w.grownBy w' (a.eval s).ownBlock:=⟨hg.os,hg.tape,hg.output,by have:=hg.size;simp at this;omega,fun k hk hne=>(hg.block k (by simp;omega) hne).trans (Below.heap_alloc w _ k hk)⟩
  have hvne:∀ (p:Addr),p.block<w.heap.size→(a.eval s).ownBlock≠some p.block→v'.ownBlock≠some p.block:=by
   intro p hlt hne e;rcases hat with h|h
   ·exact hne (h.symm.trans e)
   ·rw[h] at e
    simp at e;omega
  have fin:∀ {a':Option Addr} {n':Nat} {l':List Int},BR w a' n' l'→(0<n'→∀ p,a'=some p→(a.eval s).ownBlock≠some p.block∧B≤p.block)→BR w' a' n' l'∧(0<n'→∀ p,a'=some p→v'.ownBlock≠some p.block∧B≤p.block):=by
   intro a' n' l' hp hne;refine⟨hp.grownBy hg' (fun h0 p hpa=>(hne h0 p hpa).1),fun h0 p hpa=>⟨?_,(hne h0 p hpa).2⟩⟩;obtain⟨b,off,ha,hlt,_⟩:=hp.2.2.2 h0;have hpa':=hpa;rw[ha] at hpa;cases hpa
   exact hvne _ hlt (hne h0 _ hpa').1
  have hvl:vs.length=ls.length:=by have:=h1.1;simpa using this
  refine h v' w' ⟨vs++[.slice ad n c],by rw[Fy];exact hown',fun i l' hl'=>?_⟩ hg';by_cases hi':i<ls.length
  ·rw[FK hi'] at hl'
   obtain⟨a',n',c',e1,e2,e3,e4⟩:=h2 i l' hl';have hf:=fin e2 e4;exact⟨a',n',c',by rw[FK (by omega)];exact e1,hf.1,e3,hf.2⟩
  ·have hlen:i<(ls++[l]).length:=(FE.1 hl').1
   rw[Fy,List.length_singleton] at hlen;obtain rfl:i=ls.length:=by omega
   rw[FJ (FG _),Nat.sub_self] at hl';simp at hl';subst hl';have hf:=fin hl hp;exact⟨ad,n,c,by rw[FJ (by omega),hvl,Nat.sub_self];rfl,hf.1,hc,hf.2⟩
end
theorem bO.nil (B:Nat) (w:World) (base:Nat):bO B w base (.slice none 0 0) []:=⟨[],World.ownsRow_nil w base _ 1,fun i e he=>by simp at he⟩
theorem bO.mono {B:Nat} {w:World} {base base':Nat} {v:Value} {ls:List (List Int)} (h:bO B w base v ls) (hb:base'≤base):bO B w base' v ls:=by
 obtain⟨vs,h1,h2⟩:=h;exact⟨vs,World.ownsRow.mono h1 hb,h2⟩
namespace Mx
def jf (s:Sd) (i:Nat):List Int:=match s.q[i]? with
 | some f => bd 1 (s.ses :: (s.base + (i : Int)) :: f.kind :: f.ak) f.nb f.bs
 | none => []
theorem mA {s:Sd} {i:Nat} {f:Fr} (h:s.q[i]?=some f):jf s i=bd 1 (s.ses::(s.base+(i:Int))::f.kind::f.ak) f.nb f.bs:=by unfold jf;rw[h]
def fD (s:Sd) (k:Nat):List (List Int):=(List.range k).map (jf s)
theorem xB (s:Sd) (k:Nat):fD s (k+1)=fD s k++[jf s k]:=by unfold fD;rw[List.range_succ,List.map_append];rfl
theorem qA (s:Sd) (k:Nat):(fD s k).length=k:=by unfold fD;simp
def je (s:Sd):Nat:=min s.q.length 4
def dV (s:Sd):Int:=if bF s=0 then (if 0<s.q.length∧2147483647<s.base+(je s:Int)-1 then 1 else 0) else bF s
def eS (s:Sd):List (List Int):=if dV s=0 then fD s (je s) else []
theorem BX {s:Sd} (h:bF s≠0):dV s=bF s:=by unfold dV;rw[if_neg h]
theorem DF {s:Sd} {k:Nat} (h:bF s=0) (hk:k<je s) (h2:2147483647<s.base+(k:Int)):dV s=1:=by
 unfold dV;rw[if_pos h,if_pos];unfold je at hk ⊢;omega
theorem uZ {s:Sd} (h:bF s=0) (h2:∀ k:Nat,k<je s→s.base+(k:Int)≤2147483647):dV s=0:=by
 unfold dV;rw[if_pos h,if_neg];intro h3;have h4:=h2 (je s-1) (by unfold je;omega);unfold je at h3 h4;omega
theorem yL {f:Fr} (h:may f.kind f.ak f.nb=0):0≤f.kind∧f.kind≤15∧f.nb≤32∧f.ak.any bw=false:=by
 unfold may at h;split at h
 ·omega
 ·next h1 =>
  split at h
  ·omega
  ·next h2 =>
   split at h
   ·omega
   ·next h3=>exact⟨by omega,by omega,by omega,by simpa using h3⟩
theorem sr {f:Fr} {ses x:Int} (h:ca f=0) (h1:0≤ses∧ses≤2147483647) (h2:0≤x):may 1 (ses::x::f.kind::f.ak) f.nb=if 2147483647<x then 1 else 0:=by
 obtain⟨h3,h4⟩:=uO h;obtain⟨k0,k1,k2,k3⟩:=yL h3;unfold may;rw[if_neg (by omega),if_neg (by simp;omega)];have e1:bw ses=false:=by unfold bw;simp;omega
 have e3:bw f.kind=false:=by unfold bw;simp;omega
 rw[List.any_cons,List.any_cons,List.any_cons,e1,e3,k3];by_cases hx:2147483647<x
 ·rw[if_pos hx,if_pos (by unfold bw;simp;omega)]
 ·rw[if_neg hx,if_neg (by unfold bw;simp;omega)]
end Mx
theorem yI (ses base:Int) (qa:Option Addr) (qn qc:Nat) (fs:List Fr) (w:World) (hq:FL w qa qn fs) (hqc:qn≤qc) :
 Calls Tryz.prog 81 #[.agg #[.int .i64 ses,.int .i64 base,.slice qa qn qc]] w fun e w'=>∃ v,e=.returned (.tuple #[v,bD (Mx.dV ⟨ses,base,fs⟩)])∧Hid (bO w.heap.size w' w.heap.size v (Mx.eS ⟨ses,base,fs⟩))∧Hid (Below w.heap.size w w'):=by
 obtain⟨W0,hW0⟩:∃ W0:World,Hid (W0=w.alloc (.cells #[.int .i64 ses,.int .i64 base,.slice qa qn qc] 94)):=⟨_,rfl⟩
 have X0:=bxA hW0;have D0:=beA hW0;have HQ:=aa (hq.later D0.o);have HN:=aa hq.1;clear hq;go_enter Tryz.func81,Tryz.ntmps81;go_wp2_with fail;rw[←hW0.o];refine(ku ses base qa qn qc fs W0 HQ.o).mono ?_;rintro e w1 ⟨rfl,D1⟩;have X1:=aa (X0.o.later D1 X0.o.lt);have B1:=aa (D0.o.trans (D1.mono D0.o.size));by_cases hm:Mx.bF ⟨ses,base,fs⟩=0
 ·have HM:=aa hm
  have HOK:=aa (Mx.mS hm);have hq64:qn≤64:=by have h1:fs.length≤64:=HOK.o.2.1;have h2:=HN.o;omega
  have hb0:0≤base:=HOK.o.1.2.2.1;have hb1:base≤2147483647:=HOK.o.1.2.2.2;rw[hm,aH];clear hm;obtain⟨x0,x1,x2⟩:=X1.o.three;have Q1:=aa (HQ.o.later D1);go_wp2_with fail;refine(oA ses base qa qn qc w1 (by omega) hqc).mono ?_;rintro e w2 ⟨rfl,D2⟩;have X2:=aa (X1.o.later D2 X1.o.lt);have B2:=aa (B1.o.trans (D2.mono B1.o.size));have Q2:=aa (Q1.o.later D2);obtain⟨M,hM⟩:∃ M:Nat,Hid (M=min qn 4):=⟨_,rfl⟩
  rw[←hM.o];have HWN:=aa (show Mx.je ⟨ses,base,fs⟩=M by rw[hM.o,←HN.o];rfl);have hM4:M≤4:=by rw[hM.o];omega
  have hMq:M≤qn:=by rw[hM.o];omega
  have T2:=aa (Q2.o.take M hMq);clear x0 x1 x2;go_wp2_with fail;go_loopw [5,18] (fun v t wr=>∃ k:Nat,k≤M∧t=.int .i64 (k:Int)∧Hid (∀ j:Nat,j<k→base+(j:Int)≤2147483647)∧Hid (bO w.heap.size wr w2.heap.size v (Mx.fD ⟨ses,base,fs⟩ k))∧Hid (Below w2.heap.size w2 wr)) (fun _ t _=>M-(intOf t).toNat)
  case atStart=>exact⟨0,by omega,rfl,aa (fun j hj=>by omega),bO.nil _ _ _,Below.refl _ _⟩
  case round =>
   obtain⟨k,hk,rfl,hG,hO,hB⟩:=hrel;have BR_:=aa (B2.o.trans (hB.o.mono B2.o.size));by_cases hlt:k<M
   ·obtain⟨b,off,f,a1,n1,c1,a2,c2,hab,hblt,hx,e0,e1,e2,hi,hbk,_⟩:=(T2.o.later hB.o).at_ k hlt
    subst hab;have HX:=aa (show fs[k]?=some f by rw[List.getElem?_take,if_pos hlt] at hx;exact hx);have HMF:=aa (HOK.o.2.2 f (FN HX.o));have HSZ:=aa (Mx.jo HMF.o);have HWR:=aa (Mx.sr (x:=base+(k:Int)) HMF.o ⟨HOK.o.1.1,HOK.o.1.2.1⟩ (by omega));have HWA:=aa (Mx.mA (s:=⟨ses,base,fs⟩) HX.o);obtain⟨kd,nm,nb,bs⟩:=f;dsimp only at e0 e1 e2 hi hbk;have hn1:n1≤1000:=by have h1:nm.length≤1000:=HSZ.o.1;have h2:=hi.1;omega
    obtain⟨w3,hw3⟩:∃ w3:World,Hid (w3=wr.alloc (.cells #[.int .i64 kd,.slice a1 n1 c1,.slice a2 nb c2] 157)):=⟨_,rfl⟩
    have D3:=beA hw3;have Y3:=bxA hw3;have X3:=aa ((X2.o.later hB.o X2.o.lt).later D3.o (X2.o.later hB.o X2.o.lt).lt);have I3:=aa (hi.later D3.o);have K3:=aa (hbk.later D3.o);have O3:=aa (hO.o.later D3.o);have B3:=aa (BR_.o.trans (D3.o.mono BR_.o.size));have E3:=aa (hB.o.trans (D3.o.mono hB.o.size));have hwk:IntKind.i64.wrap (base+(k:Int))=base+(k:Int):=by rw[IntWalk.i64_left,IntWalk.wrap64_in _ (by omega)]
    clear hx hi hbk;go_upto_region 8 with fail
    rw[←hw3.o];clear e0 e1 e2;obtain⟨x0,x1,x2⟩:=X3.o.three;obtain⟨y0,y1,y2⟩:=Y3.o.three;go_wp2_with fail;refine(yJ ses (base+(k:Int)) kd a1 a2 n1 c1 nb c2 nm w3 I3.o hn1).mono ?_;rintro e w4 ⟨xa,xc,rfl,I4,D4⟩;have K4:=aa (K3.o.later D4.o);have O4:=aa (O3.o.later D4.o);have B4:=aa (B3.o.trans (D4.o.mono B3.o.size));have E4:=aa (E3.o.trans (D4.o.mono E3.o.size));clear x0 x1 x2 y0 y1 y2;by_cases hbig:2147483647<base+(k:Int)
    ·have HP:=aa (show Mx.may 1 (ses::(base+(k:Int))::kd::nm) nb=1 by have h:=HWR.o;rw[if_pos hbig] at h;exact h)
     have HSE:=aa (Mx.DF (s:=⟨ses,base,fs⟩) (k:=k) HM.o (by rw[HWN.o];exact hlt) hbig);have HSL:=aa (show Mx.eS ⟨ses,base,fs⟩=[] by unfold Mx.eS;rw[HSE.o,if_neg (by decide)]);have he1:bD 1=.iface 23 (.int .i64 1):=rfl;clear hbig;go_wp2_with fail;refine(Bt 1 xa a2 (n1+3) xc nb c2 (ses::(base+(k:Int))::kd::nm) w4 I4.o K4.o.2.1 (by rw[HP.o];decide)).mono ?_;rintro e w5 ⟨rfl,D5⟩;rw[HP.o,he1];have B5:=aa (B4.o.trans (D5.mono B4.o.size));go_wp2_with fail;exact bodyPost_ret (v:=.tuple #[.slice none 0 0,.iface 23 (.int .i64 1)]) (by simp[results,Tryz.results81,go_sem]) rfl ⟨_,by rw[HSE.o]<;>rfl,by rw[HSL.o];exact bO.nil _ _ _,B5⟩
    ·have HP:=aa (show Mx.may 1 (ses::(base+(k:Int))::kd::nm) nb=0 by have h:=HWR.o;rw[if_neg hbig] at h;exact h)
     have HG:=aa (show ∀ j:Nat,j<k+1→base+(j:Int)≤2147483647 from fun j hj=>by
      by_cases hjk:j=k
      ·subst hjk
       omega
      ·exact hG.o j (by omega))
     clear hbig;go_wp2_with fail;refine(oP 1 xa a2 (n1+3) xc nb c2 (ses::(base+(k:Int))::kd::nm) bs w4 I4.o K4.o HP.o).mono ?_;rintro e w5 ⟨v5,rfl,hO5,D5⟩;obtain⟨pa,pc,hv5,hpc,hbr,hpa⟩:=hO5.br;obtain⟨pn,hpn⟩:∃ pn:Nat,Hid (pn=(Mx.bd 1 (ses::(base+(k:Int))::kd::nm) nb bs).length):=⟨_,rfl⟩
     rw[←hpn.o] at hv5 hpc hbr;subst hv5;have P5:=aa (show BR w5 pa pn (Mx.jf ⟨ses,base,fs⟩ k) by rw[HWA.o];exact hbr);have C5:=aa hpc;have B5:=aa (B4.o.trans (D5.mono B4.o.size));have E5:=aa (E4.o.trans (D5.mono E4.o.size));have O5:=aa (O4.o.later D5);have Q5:=aa (show 0<pn→∀ p,pa=some p→u5.ownBlock≠some p.block∧w.heap.size≤p.block from fun _ p hp=>⟨fun e=>by have h1:=(O4.o.lt _ e).2;have h2:=hpa p hp;omega,by have h2:=hpa p hp;have h3:=B4.o.size;omega⟩);have HTL:=aa (show(Mx.fD ⟨ses,base,fs⟩ k).length≤1000000 by rw[Mx.qA];omega);clear hpc hbr hpa hO5;go_wp2_with (at_builtin;refine mX (w:=w5) rfl _ _ rfl w.heap.size w2.heap.size (Mx.fD ⟨ses,base,fs⟩ k) ?o1 pa pn pc (Mx.jf ⟨ses,base,fs⟩ k) ?o2 ?o3 ?o4 rfl ?o6 ?o7 ?_);case o1=>exact O5.o
     case o2=>exact P5.o
     case o3=>exact C5.o
     case o4=>exact Q5.o
     case o6=>exact HTL.o
     case o7=>exact E5.o.size
     intro v6 w6 hO6 hG6;have O6:=aa (show bO w.heap.size w6 w2.heap.size v6 (Mx.fD ⟨ses,base,fs⟩ (k+1)) by rw[Mx.xB];exact hO6);have E6:=aa (show Below w2.heap.size w2 w6 from E5.o.grown hG6 E5.o.size (fun i hi=>(O5.o.lt i hi).1));clear hO6 hG6;go_wp2_with fail;go_roundw
     case rel=>exact⟨k+1,by omega,by go_num,HG,O6,E6⟩
     case measure=>simp[intOf];omega
   ·obtain rfl:k=M:=by omega
    have HSE:=aa (Mx.uZ (s:=⟨ses,base,fs⟩) HM.o (fun j hj=>hG.o j (by rw[HWN.o] at hj;exact hj)));have HSL:=aa (show Mx.eS ⟨ses,base,fs⟩=Mx.fD ⟨ses,base,fs⟩ k by unfold Mx.eS;rw[HSE.o,if_pos rfl,HWN.o]);go_wp2_with fail;exact bodyPost_ret (v:=.tuple #[u5,.nilIface]) (by simp[results,Tryz.results81,go_sem]) rfl ⟨_,by rw[HSE.o]<;>rfl,by rw[HSL.o];exact hO.o.mono B2.o.size,BR_⟩
 ·have HSE:=aa (Mx.BX hm)
  have HSL:=aa (show Mx.eS ⟨ses,base,fs⟩=[] by unfold Mx.eS;rw[HSE.o,if_neg hm]);have HE:=aa (bp hm);rw[HE.o];clear hm;go_wp2_with fail;exact bodyPost_ret (v:=.tuple #[.slice none 0 0,.iface 23 (.int .i64 (Mx.bF ⟨ses,base,fs⟩))]) (by simp[results,Tryz.results81,go_sem]) rfl ⟨_,by rw[HSE.o,HE.o],by rw[HSL.o];exact bO.nil _ _ _,B1⟩
end Go.Proofs.YtbicgjafjjihdaaGreat
