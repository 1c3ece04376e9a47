/- Part. -/
import Derived.Test.YtbicgjafjjihdaaGreatZ43
import Derived.Test.YtbicgjafjjihdaaGreatZ44
set_option maxHeartbeats 16000000
set_option maxRecDepth 100000
namespace Go.Proofs.YtbicgjafjjihdaaGreat
section
open Go.RowKit Go.Shelf
attribute [local go_sem] Oper.semAt_some
theorem kY {F:Fence} {fuel:Nat} {ops:Array Oper} {rest:List Oper} {o:Oper} {a:Act} {w:World} {Q:Exit→Act→World→Prop} (hgd:o.guard=none) (s x:Operand)
 (ho:o.op=.call {callee:=.builtin .append,args:=#[s,x],argTypes:=#[92,92]}) (base:Nat) (n:Nat) (xs:List Value) (hown:w.ownsRow base 157 3 (a.eval s) n xs)
 (c0 c1 c2:Value) (hcc:∀ u∈[c0,c1,c2],u.oneCell'=true) (hx:a.eval x=.slice (some ⟨w.heap.size,0,none⟩) 1 1) (h63:n≤1000000) (hbase:base≤w.heap.size)
 (h:∀ v' w',w'.ownsRow base 157 3 v' (n+1) (xs++[c0,c1,c2])→w.grownBy w' (a.eval s).ownBlock→wpListIn F fuel Tryz.prog ops Q rest (a.put o.dst v') w') :
 wpListIn F fuel Tryz.prog ops Q (o::rest) a (w.alloc (.cells #[c0,c1,c2] 157)):=by
 have hw:Region.wanted o (yielded ops a.tmps)=true:=by simp[Region.wanted,hgd]
 unfold wpListIn;rw[if_pos hw];obtain⟨i0,hi,hz0,hz1,hz2⟩:=info_parts Tryz.infoFr;have hB:=Bx.new w #[c0,c1,c2] 157;obtain⟨v',w',hr,h2,h3,_⟩:=run_append_own_at (P:=Tryz.prog) (w.alloc (.cells #[c0,c1,c2] 157)) base 92 o.type 157 i0 _ 3 56 Tryz.underlying92 hi hz0 hz1 hz2 rfl (by decide) (a.eval s) n xs (World.ownsRow.alloc hown _) ⟨w.heap.size,0,none⟩ 1 1 [c0,c1,c2] rfl (fun j u hj=>by
  rw[Addr.add_lit,Nat.zero_add,hB.cell j];simpa using hj) hcc (by unfold maxLen;omega) (by omega) (by simp;omega)
 unfold Oper.wpIn;refine⟨by simp[Oper.about,ho,resolve,Target.leads,Sem.run_pure],?_⟩;rw[Oper.semAt_plain F _ _ (by rw[ho];intro c hc';cases hc')];simp[execOp,ho,resolve,invoke,builtin,hx,hr,Result.andThen];exact h v' w' h2 ⟨h3.os,h3.tape,h3.output,by have:=h3.size;simp at this;omega,fun k hk hne=>(h3.block k (by simp;omega) hne).trans (Below.heap_alloc w _ k hk)⟩
def fx (b off:Nat) {m:Nat} (x:Cn m):List Value:=[.int .i64 0,.slice (some ⟨b,off+x.s,none⟩) x.q x.q,.slice none 0 0]
def j9 (w:World) (C b off:Nat) {m:Nat} (pre:List (Cn m)) (W:World):Prop :=
 ∃ v,Bx W w.heap.size #[v] 92∧W.ownsRow C 157 3 v pre.length (pre.flatMap (fx b off))∧Below w.heap.size w W∧C≤W.heap.size
def NAx (b off:Nat) {m:Nat} (T:Array Value) (x:Cn m) (a':Act) (_:World):Prop :=
 a'={tmps:=(T.setIfInBounds 46 (.slice (some ⟨b,off+x.s,none⟩) x.q x.q)).setIfInBounds 8 (.slice (some ⟨b,off+x.s,none⟩) x.q x.q),defers:=[]}
theorem Bj (w:World) (C b off m:Nat) (hC:w.heap.size+1≤C):OwnFrom C (j9 w C b off (m:=m)):=by
 rintro pre W W' row ⟨v,b0,ho,bb,bs⟩ hg hr;have hr':∀ r,row=some r→∃ o:Obj,W.heap[r]?=some o∧o.isCells=false:=fun r e=>(hr r e).2
 exact⟨v,bP b0 hg hr',gQ ho hg hr',bb.grown hg (by omega) (fun k e=>by have:=(hr k e).1;omega),by have:=hg.size;omega⟩
theorem wu {w W W4:World} {C b off m Bs Bn:Nat} {pre:List (Cn m)} {x:Cn m} {v v':Value} (hC:w.heap.size+1≤C) (hBs:w.heap.size<Bs∧Bs<C) (hBn:w.heap.size<Bn∧Bn<C)
 (b0:Bx W w.heap.size #[v] 92) (ho:W.ownsRow C 157 3 v pre.length (pre.flatMap (fx b off))) (bb:Below w.heap.size w W) (bs:C≤W.heap.size)
 (h4:W4.ownsRow C 157 3 v' (pre.length+1) (pre.flatMap (fx b off)++fx b off x)) (hg4:W.grownBy W4 v.ownBlock) :
 KeepsFrom C W (W4.setCell ⟨w.heap.size,0,none⟩ v')∧KpC w.heap.size Bs Bn W (W4.setCell ⟨w.heap.size,0,none⟩ v')∧j9 w C b off (pre++[x]) (W4.setCell ⟨w.heap.size,0,none⟩ v'):=by
 have hlt:∀ k,v.ownBlock=some k→C≤k∧k<W.heap.size:=fun k hk=>World.ownsRow.lt ho k hk
 have hk4:KeepsOthers W W4:=KeepsOthers.of_grownBy hg4 (by
  intro j o' e hj;rcases ho.2 with ⟨hv,_⟩|⟨g',cap,cur,hv,_,hgb,_⟩
  ·rw[hv] at e;cases e
  ·rw[hv] at e
   cases e
   rw[hgb] at hj;cases hj
   rfl)
 have hblk:∀ k,k<C→W4.heap[k]?=W.heap[k]?:=fun k hk=>hg4.block k (by omega) (fun e=>by have:=(hlt k e.symm).1;omega)
 have hB4:Below C W W4:=⟨hg4.os,hg4.tape,hg4.output,hg4.size,fun k hk=>hblk k hk⟩
 have b4:Bx W4 w.heap.size #[v] 92:=(hblk _ (by omega)).trans b0;refine⟨(hk4.trans (KeepsOthers.setCell _ _ _)).from _,⟨(hB4.mono (show w.heap.size≤C by omega)).setCell (p:=⟨w.heap.size,0,none⟩) (FG _) _,?_,?_⟩,v',b4.set 0 v',?_,(bb.trans (hB4.mono (show w.heap.size≤C by omega))).setCell (p:=⟨w.heap.size,0,none⟩) (FG _) _,?_⟩
 ·rw[Below.heap_setCell _ _ _ _ (show Bs≠w.heap.size by omega)]
  exact hblk Bs hBs.2
 ·rw[Below.heap_setCell _ _ _ _ (show Bn≠w.heap.size by omega)]
  exact hblk Bn hBn.2
 ·rw[Fy,List.flatMap_append,List.flatMap_cons,List.flatMap_nil,List.append_nil]
  refine az h4 _ _ (fun e=>?_);have:=(World.ownsRow.lt h4 _ e).1;simp at this;omega
 ·simp[World.setCell]
  have:=hg4.size;omega
theorem zM {g:Operand} {assign body:Code} {Q:Exit→Act→World→Prop} {a:Act} {wl:World} (w:World) (Bs Bn b off cap m:Nat)
 (hg:a.eval g=.func (.func 148) #[] #[.pointer (some ⟨Bs,0,none⟩),.pointer (some ⟨Bn,0,none⟩)]) (hm:m≤1000) (hcap:m≤cap) (hBsl:Bs<wl.heap.size) (hBnl:Bn<wl.heap.size) (hC:w.heap.size+1≤wl.heap.size)
 (hBs:wl.cell? ⟨Bs,0,none⟩=some (.slice (some ⟨b,off,none⟩) m cap)) (hBn:wl.cell? ⟨Bn,0,none⟩=some (.int .i64 9)) (h0:j9 w wl.heap.size b off ([]:List (Cn m)) wl)
 (hassign:∀ (lp:Nat) (pre:List (Cn m)) (x:Cn m) (W:World) (K:Act→World→Prop),j9 w wl.heap.size b off pre W→(∀ a' W',KeepsFrom wl.heap.size W W'→KpC w.heap.size Bs Bn W W'→j9 w wl.heap.size b off pre W'→NAx b off a.tmps x a' W'→K a' W') →
   assign.wpIn (Fence.wide.inRound lp) (6-1-1) Tryz.prog (Exit.then K (fun _ _ _=>False)) {tmps:=a.tmps.setIfInBounds 46 (.slice (some ⟨b,off+x.s,none⟩) x.q x.q),defers:=[]} W)
 (hbody:∀ (lp:Nat) (pre:List (Cn m)) (x:Cn m) (a':Act) (W:World),j9 w wl.heap.size b off pre W→NAx b off a.tmps x a' W→pre.length<(m+8)/9 →
   body.wpIn (Fence.wide.inRound lp) (6-1-1) Tryz.prog (ownPostG wl.heap.size (KpC w.heap.size Bs Bn) (j9 w wl.heap.size b off) (fun _ _ _=>False) (pre++[x]) W) a' W)
 (hdone:∀ (D:Nat) (W:World),wl.heap.size≤D→j9 w wl.heap.size b off (cd m ((m+8)/9)) W→W.heap[D]?=some (.deferred (some []))→Q .normal {a with defers:={target:=.collected D,args:=#[]}::a.defers} W) :
 (Code.rangeFunc g #[46] assign body).wpIn Fence.wide 6 Tryz.prog Q a wl:=by
 refine wpIn_rangeFunc_ownH rfl (by omega) (gf:=148) (lb:=#[.pointer (some ⟨Bs,0,none⟩),.pointer (some ⟨Bn,0,none⟩)]) hg trivial (enters_of Tryz.func148 (by kernel_rfl) rfl)
  (sx 5 (by omega) Bs Bn w.heap.size b off cap m hm hcap wl (by omega) hBsl hBnl hBs hBn) EW (EU (by omega) hBsl hBnl) (Below.refl _ _) (fun _=>rfl)
  (j9 w wl.heap.size b off) (fun _ _ _=>False) (Bj w _ b off m hC) (fun _ _ _ _ _ hs _ _=>hs) h0 (NAx b off a.tmps) (fun _ _ _ _ _ _ h _ _=>h) ?_ ?_ ?_ ?_
 ·intro lp pre x W K hi hK
  have h:=hassign lp pre x W K hi hK;have e:(#[46].zip (oI b off x)).foldl (fun(t:Array Value) (x:Nat × Value)=>match x with|(p,v)=>t.setIfInBounds p v) a.tmps=a.tmps.setIfInBounds 46 (.slice (some ⟨b,off+x.s,none⟩) x.q x.q):=by simp[oI]
  rw[e];exact h
 ·intro lp pre x a' W _ _ hi ha hlt
  exact hbody lp pre x a' W hi ha hlt
 ·rintro D xs W hD rfl hi hK
  exact hdone D W hD hi hK
 ·intro D c pre W _ _ h _
  exact h.elim
end
section
open Go.RowKit
variable {b n i:Nat} {l:List Int}
theorem ay.Fi {w:World} {off:Nat} (h:ay w (some ⟨b,off,none⟩) n l) (s q:Nat) (hs:s+q≤n):ay w (some ⟨b,off+s,none⟩) q ((l.drop s).take q):=by
 obtain⟨h1,h2,h3⟩:=h;refine⟨by rw[FI,List.length_drop];omega,by omega,fun hq=>?_⟩;obtain⟨b',off',ha,hlt,hc⟩:=h3 (by omega);simp only[Option.some.injEq,Addr.mk.injEq,and_true] at ha;obtain⟨rfl,rfl⟩:=ha;refine⟨b,off+s,rfl,hlt,fun i hi=>?_⟩;have h9:=hc (s+i) (by omega);rw[←Nat.add_assoc] at h9;rw[h9];simp only[Fu];rw[List.getElem?_take_of_lt hi,List.getElem?_drop]
namespace Mx
theorem pS (h:i<(l.length+8)/9):(bU l)[i]?=some ((l.drop (i*9)).take 9):=by
 unfold bU;rw[List.getElem?_map,List.getElem?_range h];rfl
theorem Upd.C0 {u:Upd} {f:Fr} (h:u.msgs[i]?=some f):f.ak=(u.ak.drop (i*9)).take 9:=by
 have hl:=(FE.1 h).1;have hml:=u.kB;have hnl:=u.gO;have hnn:=iK u.ak;unfold Upd.msgs at h;have hdl:((bU u.ak).dropLast.map (fun c=>(⟨0,c,0,[]⟩:Fr))).length=(u.ak.length+8)/9-1:=by rw[List.length_map,List.length_dropLast,hnn]
 by_cases hi:i<(u.ak.length+8)/9-1
 ·rw[FK (by omega),List.getElem?_map,List.getElem?_dropLast,if_pos (by omega),pS (by omega)] at h
  simp at h;subst h;rfl
 ·have hie:i=(u.ak.length+8)/9-1:=by omega
  rw[FJ (by omega),show i-((bU u.ak).dropLast.map (fun c=>(⟨0,c,0,[]⟩:Fr))).length=0 by omega] at h;simp at h;subst h;simp only;rw[List.getLast?_eq_getElem?,hnn,pS (by omega),hie];rfl
end Mx
theorem xR {k:Nat} (hl:l.length=n) (hk:k*9<n):(l.drop (fT n k).s).take (fT n k).q=(l.drop (k*9)).take 9:=by
 show(l.drop (min (k*9) n)).take (min 9 (n-min (k*9) n))=(l.drop (k*9)).take 9
 rw[show min (k*9) n=k*9 by omega];rcases(show 9≤n-k*9∨n-k*9<9 by omega) with h|h
 ·rw[show min 9 (n-k*9)=9 by omega]
 ·rw[FH (by rw[List.length_drop];omega),FH (by rw[List.length_drop];omega)]
theorem AR {W:World} {u:Mx.Upd} {nn bn bc g B N:Nat} {ba:Option Addr} (hI:ay W (some ⟨b,0,none⟩) nn u.ak) (hk:aU W ba bn (flat (Mx.bJ u.qs))) (hbn:bn=(Mx.bJ u.qs).length) (hbc:bn≤bc) (hBb:B≤b) (hgb:g≠b)
 (hba:0<bn→∀ p,ba=some p→some g≠some p.block∧B≤p.block) (hN:N=(nn+8)/9) :
 Fps B W ((((cd nn N).flatMap (fx b 0)).set ((N-1)*3) (.int .i64 1)).set ((N-1)*3+2) (.slice ba bn bc)) u.msgs (some g):=by
 intro i f hf;have hl:=(FE.1 hf).1;have hml:=u.kB;have hnl:=u.gO;have hin:=hI.1;have hiN:i<N:=by omega
 have hML:u.msgs.length=N:=by omega
 have hx:(cd nn N)[i]?=some (fT nn i):=by unfold cd;rw[List.getElem?_map,List.getElem?_range hiN];rfl
 have e:=fun j (hj:j<3)=>eg (fx b 0) 3 (fun _=>rfl) (cd nn N) i j _ hx hj
 have hfl:((cd nn N).flatMap (fx b 0)).length=N*3:=by rw[jB _ 3 (fun _=>rfl),jj]
 have hnm:f.ak=(u.ak.drop (fT nn i).s).take (fT nn i).q:=by rw[xR hin (by omega),Mx.Upd.C0 hf]
 have hit:ay W (some ⟨b,0+(fT nn i).s,none⟩) (fT nn i).q f.ak:=by rw[hnm];exact hI.Fi _ _ (fT nn i).ok.1
 have e1:((((cd nn N).flatMap (fx b 0)).set ((N-1)*3) (.int .i64 1)).set ((N-1)*3+2) (.slice ba bn bc))[i*3+1]?=some (.slice (some ⟨b,0+(fT nn i).s,none⟩) (fT nn i).q (fT nn i).q):=by
  rw[List.getElem?_set_ne (by omega),List.getElem?_set_ne (by omega),e 1 (by omega)];rfl
 by_cases hlast:i+1=N
 ·obtain⟨f1,f2,f3⟩:=Mx.Upd.pO hf (by omega)
  have hiE:N-1=i:=by omega
  refine⟨_,_,_,ba,bc,?_,e1,?_,hit,?_,FG _,?_,fun _ p hp=>?_,?_⟩
  ·rw[List.getElem?_set_ne (by omega),hiE,List.getElem?_set_self (by rw[hfl];omega),f1]
  ·rw[hiE,List.getElem?_set_self (by rw[List.length_set,hfl];omega),f2,hbn]
  ·rw[f2,f3,←hbn];exact hk
  ·rw[f2,←hbn];exact hbc
  ·cases hp;exact⟨fun e=>hgb (FC e),hBb⟩
  ·rw[f2,←hbn];exact hba
 ·obtain⟨f1,f2,f3⟩:=Mx.Upd.pR hf (by omega)
  refine⟨_,_,_,none,0,?_,e1,?_,hit,?_,FG _,?_,fun _ p hp=>?_,?_⟩
  ·rw[List.getElem?_set_ne (by omega),List.getElem?_set_ne (by omega),show i*3=i*3+0 from rfl,e 0 (by omega),f1]
   rfl
  ·rw[List.getElem?_set_ne (by omega),List.getElem?_set_ne (by omega),e 2 (by omega),f2]
   rfl
  ·rw[f2,f3];exact⟨rfl,by rw[aC];omega,fun x hx=>by simp at hx,fun h=>absurd h (by omega)⟩
  ·rw[f2];exact FG _
  ·cases hp;exact⟨fun e=>hgb (FC e),hBb⟩
  ·rw[f2];intro h;exact absurd h (by omega)
end
section
open Go.RowKit Go.Shelf
variable {w:World} {frm to_:Int} {nn nc bn bc:Nat} {ba:Option Addr} {u0 u5 u6 u8 u9 u10 u11 u12 u13 u14 u15 u16 u17 u18 u19 u20 u21 u22 u23 u24 u25 u26 u27 u28 u29 u30 u31 u32 u33 u34 u35 u36 u37 u38 u39 u40 u41 u42 u43 u44 u45 u46 u47 u48 u49 u50 u51 u52 u53 u54 u55 u56 u57 u58 u59 u60 u61 u62 u63 u64:Value}
attribute [local go_sem] Oper.semAt_some
theorem mm6 {W:World} {qs:List Pk} {b lb M g cap D C:Nat} (HI:Hid (aX W w.heap.size (.slice (some ⟨b,0,none⟩) nn nc) (frm::to_::qs.map Mx.cV))) (HB:Hid (au W w.heap.size (.slice ba bn bc) (Mx.bJ qs))) (HBY:Hid (∀ x∈Mx.bJ qs,Mx.by8 x)) (HX:Hid (Bx W lb #[.slice (some ⟨g,0,none⟩) (M+1) cap] 92)) (HO:Hid (W.ownsRow C 157 3 (.slice (some ⟨g,0,none⟩) (M+1) cap) (M+1) ((cd nn (M+1)).flatMap (fx b 0)))) (HF:Hid (Below w.heap.size w W)) (HM:Hid (M+1=(nn+8)/9)) (hCw:w.heap.size≤C) (hM:M≤1000) (HD:Hid (W.heap[D]?=some (.deferred (some [])))) (hDw:w.heap.size≤D) {u1 u2 u3:Value} :
 fe (Tryz.f105.body.getD .skip) (bodyPostM Fence.wide 6 Tryz.prog Tryz.f105 (fun e w'=>∃ la ln lc,e=.returned (.slice la ln lc)∧Hid (bV w.heap.size w' w.heap.size (.slice la ln lc) (Mx.Upd.msgs ⟨frm,to_,qs⟩))∧Hid (Below w.heap.size w w'))) 6 ⟨#[u0,u1,u2,u3,.slice ba bn bc,u5,u6,.pointer (some ⟨lb,0,none⟩),u8,u9,u10,u11,u12,u13,u14,u15,u16,u17,u18,u19,u20,u21,u22,u23,u24,u25,u26,u27,u28,u29,u30,u31,u32,u33,u34,u35,u36,u37,u38,u39,u40,u41,u42,u43,u44,u45,u46,u47,u48,u49,u50,u51,u52,u53,u54,u55,u56,u57,u58,u59,u60,u61,u62,u63,u64],[{target:=.collected D,args:=#[]}]⟩ W:=by
 refine cS rfl ?_;intro K hK;have c0:=HX.o.cell 0;simp only[Fx,Fv] at c0;have h1:(0:Int)≤(M:Int):=by omega
 go_wp2_with fail;refine Met.intro (cS rfl ?_);try clear hK K
 intro K hK;have HNN:=aa (show nn=(frm::to_::qs.map Mx.cV).length by
  obtain⟨a7,c7,hv7,_⟩:=aX.ints HI.o;injection hv7)
 have hx:(cd nn (M+1))[M]?=some (fT nn M):=by unfold cd;rw[List.getElem?_map,List.getElem?_range (by omega)];rfl
 obtain⟨a9,c9,hv9,_,hr9,_⟩:=aB HO.o;obtain⟨b9,o9,ha9,_,hc9⟩:=hr9.2.2 (by omega);have e9:a9=some ⟨g,0,none⟩:=by injection hv9 with h _ _;exact h.symm
 rw[e9] at ha9;simp only[Option.some.injEq,Addr.mk.injEq,and_true] at ha9;obtain⟨rfl,rfl⟩:=ha9;have r0:W.cell? ⟨g,M*3,none⟩=some (.int .i64 0):=by
  have h9:=hc9 (M*3+0) _ ((eg (fx b 0) 3 (fun _=>rfl) _ M 0 _ hx (by omega)).trans rfl);simpa using h9
 have r2:W.cell? ⟨g,M*3+2,none⟩=some (.slice none 0 0):=by
  have h9:=hc9 (M*3+2) _ ((eg (fx b 0) 3 (fun _=>rfl) _ M 2 _ hx (by omega)).trans rfl);simpa using h9
 obtain⟨cur,hcur⟩:∃ cur,Hid (Bx W g cur 157):=by
  rcases HO.o.2 with ⟨hv,_⟩|⟨g',cap',cur,hv,_,hh,_⟩
  ·cases hv
  ·simp only[Value.slice.injEq,Option.some.injEq,Addr.mk.injEq,and_true] at hv
   obtain⟨rfl,_⟩:=hv;exact⟨cur,aa hh⟩
 have rz:=hcur.o.frozen;clear hv9 hr9 hc9 e9 hx;have HGL:=aa (show lb≠g from fun e=>by
  have h1:=HX.o;have h2:=hcur.o;unfold Bx at h1 h2;rw[e,h2] at h1;simp at h1)
 obtain⟨W8,hW8⟩:∃ W8:World,Hid (W8=(W.setCell ⟨g,M*3,none⟩ (.int .i64 1)).setCell ⟨g,M*3+2,none⟩ (.slice ba bn bc)):=⟨_,rfl⟩
 have S1:=HO.o.stored (M*3) (.int .i64 1);have S2:=S1.1.stored (M*3+2) (.slice ba bn bc);have O8:=aa (show W8.ownsRow C 157 3 (.slice (some ⟨g,0,none⟩) (M+1) cap) (M+1) _ by rw[hW8.o];exact S2.1);have G8:=aa (show W.grownBy W8 (some g) by rw[hW8.o];exact S1.2.trans S2.2);clear S1 S2;have hgC:=(World.ownsRow.lt HO.o g rfl).1;have X8:=aa (HX.o.grow G8.o (fun e=>HGL.o (FC e)));have NI:=aa (aZ HI.o hcur.o (by decide));have NB:=aa (aZ HB.o hcur.o (by decide));have I8:=aa (show aX W8 w.heap.size (.slice (some ⟨b,0,none⟩) nn nc) (frm::to_::qs.map Mx.cV) from World.ownsRow.kept HI.o G8.o (.inr NI.o));have B8_:=aa (show au W8 w.heap.size (.slice ba bn bc) (Mx.bJ qs) from World.ownsRow.kept HB.o G8.o (.inr NB.o));have F8:=aa (show Below w.heap.size w W8 from aT HF.o G8.o (by omega));have D8:=aa (show W8.heap[D]?=some (.deferred (some [])) from(G8.o.block D (by
  rcases Nat.lt_or_ge D W.heap.size with h|h
  ·exact h
  ·have h9:=HD.o
   rw[Array.getElem?_eq_none h] at h9;cases h9) (fun e=>by
  have h9:=HD.o;have h8:=hcur.o;unfold Bx at h8;rw[FC e,h8] at h9;simp at h9)).trans HD.o)
 go_wp2_with fail;rw[←hW8.o];refine Met.intro (oy (c':=.seq _ .ret) rfl ?_);try clear hK K
 clear c0 r0 r2 rz;have c0:=X8.o.cell 0;simp only[Fx,Fv] at c0;go_wp2_with fail;have hgO:=grownBy_putObj' W8 D (.deferred none);have hrO:∀ r,some D=some r→∃ o:Obj,W8.heap[r]?=some o∧o.isCells=false:=fun r e=>by cases e;exact⟨_,D8.o,rfl⟩
 have o9:=gQ O8.o hgO hrO;have i9:=gQ I8.o hgO hrO;have b9:=gQ B8_.o hgO hrO;have hbl:=F8.o.grown hgO F8.o.size (fun k e=>by cases e;omega);refine⟨by simp,.inl ⟨_,_,rfl,run_takeDeferred D8.o,?_⟩⟩;generalize W8.putObj D (.deferred none)=WG at *;have hln:(Mx.Upd.msgs ⟨frm,to_,qs⟩).length=M+1:=by
  rw[Mx.Upd.kB,HM.o];rw[HNN.o];simp
 have hI9:ay WG (some ⟨b,0,none⟩) nn (frm::to_::qs.map Mx.cV):=by
  obtain⟨a7,c7,hv7,h7⟩:=aX.ints i9;injection hv7 with e1 e2 _
  rw[←e1,←e2] at h7;exact h7
 obtain⟨a6,c6,hv6,h6,hp6⟩:=au.bl b9;injection hv6 with e1 e2 _
 subst e1;have hb9:aU WG ba bn (flat (Mx.bJ qs)):=by
  rw[←e2] at h6;exact h6.Ap HBY.o
 have hbc:bn≤bc:=by
  obtain⟨a5,c5,hv5,hc5,_⟩:=aB HB.o;injection hv5 with _ e5 e6
  omega
 refine⟨.slice (some ⟨g,0,none⟩) (M+1) cap,by simp[results,Tryz.results105,go_sem],some ⟨g,0,none⟩,M+1,cap,rfl,aa ⟨(((cd nn (M+1)).flatMap (fx b 0)).set (M*3) (.int .i64 1)).set (M*3+2) (.slice ba bn bc),?_,?_⟩,aa hbl⟩
 ·rw[hln]
  exact World.ownsRow.mono o9 (by omega)
 ·have h5:=AR (W:=WG) (u:=⟨frm,to_,qs⟩) (b:=b) (nn:=nn) (bn:=bn) (bc:=bc) (g:=g) (B:=w.heap.size) (N:=M+1) (ba:=ba) hI9 hb9 e2 hbc (World.ownsRow.lt HI.o b rfl).1 (fun e=>NI.o (by rw[e];rfl)) (fun _ p hp=>⟨fun e=>NB.o (by rw[hp];exact e.symm),hp6 p hp⟩) HM.o
  exact h5
theorem mm4 {V:World} {qs:List Pk} {na:Option Addr} {qn:Nat} (HI:Hid (aX V w.heap.size (.slice na nn nc) (frm::to_::qs.map Mx.cV))) (HB:Hid (au V w.heap.size (.slice ba bn bc) (Mx.bJ qs))) (HBY:Hid (∀ x∈Mx.bJ qs,Mx.by8 x)) (HF:Hid (Below w.heap.size w V)) (hnn:nn=qn+2) (hqn:qn≤900) {u7:Value} :
 fe (Tryz.f105.body.getD .skip) (bodyPostM Fence.wide 6 Tryz.prog Tryz.f105 (fun e w'=>∃ la ln lc,e=.returned (.slice la ln lc)∧Hid (bV w.heap.size w' w.heap.size (.slice la ln lc) (Mx.Upd.msgs ⟨frm,to_,qs⟩))∧Hid (Below w.heap.size w w'))) 4 ⟨#[u0,.pointer (some ⟨w.heap.size,0,none⟩),.slice none 0 0,.slice na nn nc,.slice ba bn bc,u5,u6,u7,u8,u9,u10,u11,u12,u13,u14,u15,u16,u17,u18,u19,u20,u21,u22,u23,u24,u25,u26,u27,u28,u29,u30,u31,u32,u33,u34,u35,u36,u37,u38,u39,u40,u41,u42,u43,u44,u45,u46,u47,u48,u49,u50,u51,u52,u53,u54,u55,u56,u57,u58,u59,u60,u61,u62,u63,u64],[]⟩ V:=by
 obtain⟨b,hna⟩:∃ b:Nat,na=some ⟨b,0,none⟩:=by
  rcases HI.o.2 with ⟨_,h⟩|⟨g',cap',cur,hv,_⟩
  ·simp at h
  ·injection hv with h _ _
   exact⟨g',h⟩
 obtain⟨o,ho⟩:∃ o:Nat,Hid (o=0):=⟨_,rfl⟩
 rw[←ho.o] at hna;subst hna;have hnc:nn≤nc:=aX.cap HI.o;have HNN:=aa hnn;have hn1:nn≤1000:=by omega
 have hn2:2≤nn:=by omega
 clear hnn;refine cS rfl ?_;intro K hK;obtain⟨V1,hV1⟩:∃ V1:World,Hid (V1=V.alloc (.cells #[.slice none 0 0] 92)):=⟨_,rfl⟩
 go_wp2_with fail;rw[←hV1.o];refine Met.intro (cS rfl ?_);try clear hK K
 intro K hK;go_wp2_with fail;refine(callsIn_wide.1 (tL 5 (some ⟨b,o,none⟩) nn nc V1)).mono ?_;rintro e w2 ⟨rfl,rfl⟩;go_wp2_with fail;obtain⟨wl,hwl⟩:∃ wl:World,Hid (wl=(V1.alloc (.cells #[.slice (some ⟨b,o,none⟩) nn nc] 46)).alloc (.cells #[.int .i64 9] 3)):=⟨_,rfl⟩
 have hS1:V.heap.size<V1.heap.size:=by rw[hV1.o];simp
 have hsz:V1.heap.size+1<wl.heap.size:=by rw[hwl.o];simp
 have X0:=aa (show Bx wl V.heap.size #[.slice none 0 0] 92 by rw[hwl.o,hV1.o];exact((Bx.new V _ _).alloc _).alloc _);have X1:=aa (show Bx wl V1.heap.size #[.slice (some ⟨b,o,none⟩) nn nc] 46 by rw[hwl.o];exact(Bx.new V1 _ _).alloc _);have X2:=aa (show Bx wl (V1.heap.size+1) #[.int .i64 9] 3 by
  rw[hwl.o];have h:=Bx.new (V1.alloc (.cells #[.slice (some ⟨b,o,none⟩) nn nc] 46)) #[.int .i64 9] 3;rw[World.size_alloc] at h;exact h)
 have B0:=aa (show Below V.heap.size V wl by rw[hwl.o,hV1.o];exact((af _ _).alloc (by simp) _).alloc (by simp;omega) _);rw[←hwl.o];have hwl3:V.heap.size+1≤wl.heap.size:=by omega
 refine wpIn_wide.1 (zM V V1.heap.size (V1.heap.size+1) b o nc nn rfl hn1 hnc (by omega) (by omega) hwl3 (X1.o.cell 0) (X2.o.cell 0) ⟨.slice none 0 0,X0.o,World.ownsRow_nil _ _ _ _,B0.o,FG _⟩ ?assign ?body ?done);case assign =>
  intro lp pre x W K hi hK;simp only[List.setIfInBounds_toArray,List.set_cons_succ,List.set_cons_zero];gi_wp2
  exact hK _ _ (KeepsFrom.refl _ _) ⟨Below.refl _ _,rfl,rfl⟩ hi (by unfold NAx;simp only[List.setIfInBounds_toArray,List.set_cons_succ,List.set_cons_zero])
 case body =>
  rintro lp pre x a' W ⟨v,b0,ho,bb,bs⟩ rfl hlt;have HX0:=aa b0;have HO:=aa ho;have HBB:=aa bb;have HBS:=aa bs;have c0:=b0.cell 0;have hwW:V.heap.size<W.heap.size:=b0.lt;have hpl:pre.length≤1000:=by omega
  clear b0 ho bb bs;simp only[List.setIfInBounds_toArray,List.set_cons_succ,List.set_cons_zero] at c0 ⊢;gi_wp2_with (refine kY rfl (.tmp 47) (.tmp 50) rfl wl.heap.size pre.length (pre.flatMap (fx b o)) ?zz1 (.int .i64 0) (.slice (some ⟨b,o+x.s,none⟩) x.q x.q) (.slice none 0 0) ?zz2 rfl ?zz3 ?zz4 ?_);case zz1=>exact HO.o
  case zz2=>intro y hy;simp at hy;rcases hy with rfl|rfl|rfl<;>rfl
  case zz3=>omega
  case zz4=>exact HBS.o
  intro v' W4 hown4 hgr4;obtain⟨g4,cap4,hv4,_⟩:=hown4.form (by omega);obtain⟨N4,hN4⟩:∃ N4:Nat,Hid (N4=pre.length+1):=⟨_,rfl⟩
  rw[←hN4.o] at hv4;subst hv4;have HO4:=aa hown4;have HG4:=aa (show W.grownBy W4 v.ownBlock from hgr4);have HX4:=aa (show Bx W4 V.heap.size #[v] 92 from(HG4.o.block _ hwW (fun e=>by have:=(World.ownsRow.lt HO.o _ e.symm).1;omega)).trans HX0.o);have c4:W4.cell? ⟨V.heap.size,0,none⟩=some v:=HX4.o.cell 0;have z4:=HX4.o.frozen;clear hown4 hgr4;gi_wp2_with fail;exact wu hwl3 ⟨by omega,by omega⟩ ⟨by omega,by omega⟩ HX0.o HO.o HBB.o HBS.o HO4.o HG4.o
 case done =>
  intro D W hD hi hKd;have ho':=ho.o;subst ho';obtain⟨v,b0,ho2,bb,bs⟩:=hi;obtain⟨M,hM⟩:∃ M:Nat,Hid (M+1=(nn+8)/9):=⟨(nn+8)/9-1,aa (by omega)⟩
  rw[jj,←hM.o] at ho2;obtain⟨g,cap,hv⟩:∃ g cap,v=.slice (some ⟨g,0,none⟩) (M+1) cap:=by
   rcases ho2.2 with ⟨_,h⟩|⟨g',cap',cur,hv,_⟩
   ·simp at h
   ·exact⟨g',cap',hv⟩
  subst hv;refine hK _ _ (Met.intro (mm6 (W:=W) (aa (bm HI.o bb)) (aa (bm HB.o bb)) HBY (aa b0) (aa ho2) (aa (HF.o.trans (bb.mono HF.o.size))) hM (by have h9:=HF.o.size;omega) (by have h9:=hM.o;omega) (aa hKd) (by have h9:=HF.o.size;omega)))
end
section
open Go.RowKit Go.Shelf
theorem sv (frm to_:Int) (qa:Option Addr) (qn qc:Nat) (qs:List Pk) (w:World) (hq:QL w qa qn qs) (hw:∀ q∈qs,Mx.QW q) (hqn:qn≤900) (hby:∀ x∈Mx.bJ qs,Mx.by8 x) :
 Calls Tryz.prog 105 #[.agg #[.int .i64 frm,.int .i64 to_,.slice qa qn qc]] w fun e w'=>∃ la ln lc,e=.returned (.slice la ln lc)∧Hid (bV w.heap.size w' w.heap.size (.slice la ln lc) (Mx.Upd.msgs ⟨frm,to_,qs⟩))∧Hid (Below w.heap.size w w'):=by
 have HQ:=aa hq;have HW:=aa hw;have HBY:=aa hby;clear hq hw hby;obtain⟨W0,hW0⟩:∃ W0:World,Hid (W0=w.alloc (.cells #[.int .i64 frm,.int .i64 to_,.slice qa qn qc] 183)):=⟨_,rfl⟩
 obtain⟨W1,hW1⟩:∃ W1:World,Hid (W1=W0.alloc (.cells #[.int .i64 frm,.int .i64 to_] 3)):=⟨_,rfl⟩
 have X0:=bxA hW0;have D0:=beA hW0;have D1:=beA hW1;have X1:=aa (X0.o.later D1.o X0.o.lt);have F1:=aa (show Below w.heap.size w W1 from D0.o.trans (D1.o.mono D0.o.size));have I1:=aa (show aX W1 w.heap.size (.slice (some ⟨W0.heap.size,0,none⟩) 2 2) [frm,to_] by
  rw[hW1.o];exact⟨rfl,.inr ⟨W0.heap.size,2,_,rfl,D0.o.size,heap_alloc_new W0 _,FG _,by rw[aC];omega,rfl,rfl⟩⟩)
 obtain⟨x0,x1,x2⟩:=X0.o.three;refine(callsIn_wide (n:=6)).1 ?_;refine callsIn_of_wp_marks Tryz.func105 rfl trivial ?_ rfl;simp only[Tryz.ntmps105,List.size_toArray,List.length_cons,List.length_nil,Nat.reduceAdd,Nat.reduceSub,Array.replicate_succ,Array.replicate_zero,List.push_toArray,List.append_toArray,List.nil_append,List.cons_append];refine wpIn_wide.2 ?_;change fe (Tryz.f105.body.getD .skip) _ 0 _ w;refine cS rfl ?_;intro K hK;go_wp2_with fail;rw[←hW0.o];refine Met.intro (cS rfl ?_);try clear hK K
 intro K hK;go_wp2_with fail;rw[←hW1.o];refine Met.intro (cS rfl ?_);try clear hK K
 intro K hK;go_wp2_with fail;exact Met.intro (mm3 HQ HW (by omega) X1 I1 F1 (fun V na nn nc ba bn bc {_ _ _ _ _ _ _ _ _ _ _ _ _ _ _ _ _ _ _ _ _ _ _ _ _ _ _ _ _ _ _ _ _ _ _ _ _ _ _ _ _ _ _ _ _ _ _ _ _ _ _ _ _ _ _ _ _ _ _ _ _} hI hB hnn hbn hF=>mm4 hI hB HBY hF hnn hqn))
end
section
open Go.RowKit
theorem EC (ses base:Int) (qa:Option Addr) (qn qc:Nat) (fs:List Fr) (kd:Int) (a1 a2:Option Addr) (n1 c1 n2 c2:Nat) (nm bs:List Int) (w:World) (hq:FL w qa qn fs) (hi:ay w a1 n1 nm) (hk:aU w a2 n2 bs) (h0:Mx.fX ⟨ses,base,fs⟩ ⟨kd,nm,n2,bs⟩=0) :
 Calls Tryz.prog 106 #[.agg #[.int .i64 ses,.int .i64 base,.slice qa qn qc],.agg #[.int .i64 kd,.slice a1 n1 c1,.slice a2 n2 c2]] w fun e w'=>∃ qa' qn' qc',e=.returned (.tuple #[.agg #[.int .i64 ses,.int .i64 base,.slice qa' qn' qc'],.nilIface])∧Hid (FLA w.heap.size w' qa' qn' (fs++[⟨kd,nm,n2,bs⟩])∧qn'≤qc')∧Hid (Below w.heap.size w w'):=by
 refine(wh ses base qa qn qc fs kd a1 a2 n1 c1 n2 c2 nm bs w hq hi hk).mono ?_;rintro e w' ⟨v,rfl,h1,h2⟩;rw[h0];rcases h1.o with ⟨h,_⟩|⟨_,qa',qn',qc',rfl,h3,h4⟩
 ·exact absurd h0 h
 ·exact⟨qa',qn',qc',rfl,aa ⟨h3,h4⟩,h2⟩
theorem of6 {R:Ending→World→Prop} {W:World} {P ub sb hn hc un uc:Nat} {frm to_ ses base:Int} {ha ua qi:Option Addr} {ci:Nat} {qs:List Pk} {ms:List Fr} (HQ:Hid (QL W ua un qs)) (HW:Hid (∀ q∈qs,Mx.QW q)) (hun:un≤900) (HBY:Hid (∀ x∈Mx.bJ qs,Mx.by8 x)) (HMS:Hid (ms=Mx.Upd.msgs ⟨frm,to_,qs⟩)) (hml:ms.length≤64) (HO:Hid (∀ k f,ms[k]?=some f→Mx.fX ⟨ses,base,ms.take k⟩ f=0))
 (XU:Hid (Bx W ub #[.int .i64 frm,.int .i64 to_,.slice ua un uc] 183)) (XS:Hid (Bx W sb #[.int .i64 ses,.int .i64 base,.slice qi 0 ci] 94)) {u1 u7 u8 u9 u10 u11 u12 u13 u14 u15 u16 u17 u18 u19 u20 u21 u22 u23 u24 u25 u26 u27 u28 u29 u30 u31 u32 u33 u34 u35 u36 u37 u38 u39 u40 u41 u42 u43 u44 u45 u46 u47 u48 u49 u50 u51 u52 u53 u54 u55 u56 u57 u58 u59 u60 u61 u62 u63:Value}
 (hQ:∀ (V:World) (qa:Option Addr) (qn qc:Nat) {v1 v2 v7 v8 v9 v10 v11 v12 v13 v14 v15 v16 v17 v18 v19 v20 v21 v22 v23 v24 v25 v26 v27 v28 v29 v30 v31 v32 v33 v34 v35 v36 v37 v38 v39 v40 v41 v42 v43 v44 v45 v46 v47 v48 v49 v50 v51 v52 v53 v54 v55 v56 v57 v58 v59 v60 v61 v62 v63:Value},Hid (Bx V sb #[.int .i64 ses,.int .i64 base,.slice qa qn qc] 94)→Hid (FLA W.heap.size V qa qn ms∧qn≤qc)→Hid (W.grownBy V (some sb))→aA Tryz.f80 R 7 ⟨#[.pointer (some ⟨P,0,none⟩),v1,v2,.pointer (some ⟨ub,0,none⟩),.nilIface,.slice ha hn hc,.pointer (some ⟨sb,0,none⟩),v7,v8,v9,v10,v11,v12,v13,v14,v15,v16,v17,v18,v19,v20,v21,v22,v23,v24,v25,v26,v27,v28,v29,v30,v31,v32,v33,v34,v35,v36,v37,v38,v39,v40,v41,v42,v43,v44,v45,v46,v47,v48,v49,v50,v51,v52,v53,v54,v55,v56,v57,v58,v59,v60,v61,v62,v63],[]⟩ V) :
 aA Tryz.f80 R 6 ⟨#[.pointer (some ⟨P,0,none⟩),u1,.nilIface,.pointer (some ⟨ub,0,none⟩),.nilIface,.slice ha hn hc,.pointer (some ⟨sb,0,none⟩),u7,u8,u9,u10,u11,u12,u13,u14,u15,u16,u17,u18,u19,u20,u21,u22,u23,u24,u25,u26,u27,u28,u29,u30,u31,u32,u33,u34,u35,u36,u37,u38,u39,u40,u41,u42,u43,u44,u45,u46,u47,u48,u49,u50,u51,u52,u53,u54,u55,u56,u57,u58,u59,u60,u61,u62,u63],[]⟩ W:=by
 refine aj rfl ?_;intro K hK;obtain⟨x0,x1,x2⟩:=XU.o.three;go_wp2_with fail;refine(sv frm to_ ua un uc qs W HQ.o HW.o hun HBY.o).mono ?_;rintro e w1 ⟨la,ln,lc,rfl,hL,D1⟩;rw[←HMS.o] at hL;obtain⟨a9,c9,hv9,_,hF9⟩:=hL.o.fla (FG _);have HL:=aa (show FLA W.heap.size w1 la ln ms by injection hv9 with e1 e2 _;rw[e1,e2];exact hF9);have HLN:=aa HL.o.1;have hln:ln≤64:=by have h9:=HLN.o;omega
 clear hv9 hF9 hL x0 x1 x2;have hsW:sb<W.heap.size:=XS.o.lt;have XS1:=aa (XS.o.later D1.o hsW);have G1:=aa (show W.grownBy w1 (some sb) from⟨D1.o.os,D1.o.tape,D1.o.output,D1.o.size,fun k hk _=>D1.o.block k hk⟩);go_upto_region 9 with fail
 go_loopw [4,37] (fun s4 t wr=>∃ (k:Nat) (qa:Option Addr) (qn qc:Nat),k≤ln∧s4=.nilIface∧t=.int .i64 (k:Int)∧Hid (Bx wr sb #[.int .i64 ses,.int .i64 base,.slice qa qn qc] 94)∧Hid (FLA W.heap.size wr qa qn (ms.take k)∧qn≤qc)∧Hid (FLA W.heap.size wr la ln ms)∧Hid (W.grownBy wr (some sb))) (fun _ t _=>ln-(intOf t).toNat)
 case atStart=>exact⟨0,qi,0,ci,Nat.zero_le _,rfl,rfl,XS1,aa ⟨⟨rfl,by rw[aC];omega,fun h=>absurd h (by omega)⟩,Nat.zero_le _⟩,HL,G1⟩
 case round =>
  obtain⟨k,qa,qn,qc,hk,rfl,rfl,hX,hA,hM,hG⟩:=hrel;by_cases hlt:k<ln
  ·have hlti:(k:Int)<(ln:Int):=by omega
   obtain⟨b,off,f,a1,n1,c1,a2,c2,hab,hblt,hx,e0,e1,e2,hi,hbk,_⟩:=hM.o.fl.at_ k hlt;subst hab;have HX:=aa hx;obtain⟨kd,nm,nb,bs⟩:=f;dsimp only at e0 e1 e2 hi hbk;have HI:=aa hi;have HB:=aa hbk;have HOK:=aa (HO.o k _ hx);clear hi hbk hx;obtain⟨W4,hW4⟩:∃ W4:World,Hid (W4=wr.alloc (.cells #[.int .i64 kd,.slice a1 n1 c1,.slice a2 nb c2] 157)):=⟨_,rfl⟩
   have X4:=bxA hW4;have D4:=beA hW4;go_upto_region 11 with fail
   rw[←hW4.o];clear e0 e1 e2;have XS4:=aa (hX.o.later D4.o hX.o.lt);obtain⟨s0,s1,s2⟩:=XS4.o.three;obtain⟨f0,f1,f2⟩:=X4.o.three;go_wp2_with fail;refine(EC ses base qa qn qc (ms.take k) kd a1 a2 n1 c1 nb c2 nm bs W4 (hA.o.1.fl.later D4.o) (HI.o.later D4.o) (HB.o.later D4.o) HOK.o).mono ?_;rintro e w5 ⟨qa',qn',qc',rfl,h5,D5⟩;have XS5:=aa (XS4.o.later D5.o XS4.o.lt);clear s0 s1 s2 f0 f1 f2;obtain⟨s0,s1,s2⟩:=XS5.o.three;have sz:=XS5.o.frozen;have G5:=aa (show W.grownBy w5 (some sb) from hG.o.trans ⟨D5.o.os.trans D4.o.os,D5.o.tape.trans D4.o.tape,D5.o.output.trans D4.o.output,FM D4.o.size D5.o.size,fun j hj _=>(D5.o.block j (Fz hj D4.o.size)).trans (D4.o.block j hj)⟩);have hws:W.heap.size≤W4.heap.size:=FM hG.o.size D4.o.size;obtain⟨W6,hW6⟩:∃ W6:World,Hid (W6=cb w5 sb (.int .i64 ses) (.int .i64 base) (.slice qa' qn' qc')):=⟨_,rfl⟩
   have G6:=aa (show w5.grownBy W6 (some sb) by rw[hW6.o];exact bA (ar _ _) _ _ _);have X6:=aa (show Bx W6 sb #[.int .i64 ses,.int .i64 base,.slice qa' qn' qc'] 94 by rw[hW6.o];exact XS5.o.aG _ _ _);have A6:=aa (show FLA W.heap.size W6 qa' qn' (ms.take (k+1))∧qn'≤qc' from⟨by
    rw[List.take_add_one,HX.o];exact(h5.o.1.low hws).grown G6.o hsW,h5.o.2⟩)
   have M6:=aa (show FLA W.heap.size W6 (some ⟨b,off,none⟩) ln ms from((hM.o.later D4.o).later D5.o).grown G6.o hsW);have G7:=aa (show W.grownBy W6 (some sb) from G5.o.trans G6.o);unfold cb at hW6;go_upto_region 12 with fail
   rw[←hW6.o];clear s0 s1 s2 sz;go_wp2_with fail;go_roundw
   case rel=>exact⟨k+1,qa',qn',qc',by omega,rfl,by go_num,X6,A6,M6,G7⟩
   case measure=>simp[intOf];omega
  ·have hkq:k=ln:=by omega
   subst hkq;have HT:=aa (show ms.take k=ms from FH (by have:=HLN.o;omega));rw[HT.o] at hA;go_wp2_with fail;exact Met.intro (hQ wr qa qn qc hX hA hG)
end
end Go.Proofs.YtbicgjafjjihdaaGreat
