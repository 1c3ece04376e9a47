/- Part. -/
import Derived.Test.YtbicgjafjjihdaaGreatZ9
import Derived.Test.YtbicgjafjjihdaaGreatZ10
import Derived.Test.YtbicgjafjjihdaaGreatZ17
import Derived.Test.YtbicgjafjjihdaaGreatZ18
set_option maxHeartbeats 16000000
set_option maxRecDepth 100000
namespace Go.Proofs.YtbicgjafjjihdaaGreat
open Go.RowKit
section
open Go.ChangeMaps (setBlock)
structure Ex (S:Nat→Prop) (w w':World):Prop extends Ext S w w' where
 os:w'.os=w.os
 tape:w'.tape=w.tape
 output:w'.output=w.output
theorem Ex.refl (S:Nat→Prop) (w:World):Ex S w w:=⟨Ext.refl S w,rfl,rfl,rfl⟩
theorem Ex.trans {S:Nat→Prop} {w w' w'':World} (h:Ex S w w') (h':Ex S w' w''):Ex S w w'':=⟨h.toExt.trans h'.toExt,h'.os.trans h.os,h'.tape.trans h.tape,h'.output.trans h.output⟩
theorem Ex.mono {S S':Nat→Prop} {w w':World} (h:Ex S w w') (hs:∀ b,b<w.heap.size→S b→S' b):Ex S' w w':=⟨h.toExt.mono hs,h.os,h.tape,h.output⟩
theorem Ex.below {S:Nat→Prop} {w w':World} (h:Below w.heap.size w w'):Ex S w w':=⟨Ext.below h,h.os,h.tape,h.output⟩
theorem Ex.bx {S:Nat→Prop} {w w':World} {g:Nat} {cs:Array Value} {t:TypeId} (h:Ex S w w') (hx:Bx w g cs t) (hs:¬S g):Bx w' g cs t:=Ext.bx h.toExt hx hs
theorem Ex.one {w w':World} {g:Nat} (h:w.grownBy w' (some g)):Ex (fun b=>b=g) w w':=⟨⟨h.size,fun b hb hn=>h.block b hb (fun e=>hn (FC e))⟩,h.os,h.tape,h.output⟩
theorem Ex.chain {A T:Nat→Prop} {w v w':World} (h1:Ex A w v) (h2:Ex T v w') (ht:∀ b,b<w.heap.size→T b→A b):Ex A w w' :=
 ⟨⟨FM h1.size h2.size,fun b hb hn=>(h2.block b (Fz hb h1.size) (fun t=>hn (ht b hb t))).trans (h1.block b hb hn)⟩,h2.os.trans h1.os,h2.tape.trans h1.tape,h2.output.trans h1.output⟩
theorem Ex.toBelow_of {S:Nat→Prop} {w w':World} {B:Nat} (h:Ex S w w') (hB:B≤w.heap.size) (hs:∀ b,S b→B≤b):Below B w w':=⟨h.os,h.tape,h.output,h.size,fun k hk=>h.block k (by omega) (fun e=>by have:=hs k e;omega)⟩
def cM (S:Nat→Prop):Nat→Prop:=fun b=>¬S b
structure Mut (S:Nat→Prop) (w:World):Prop where
 lt:∀ b,S b→b<w.heap.size
 no:∀ b o v,S b→w.cell? ⟨b,o,none⟩≠some (.int .u8 v)
theorem Mut.later {S:Nat→Prop} {w w':World} (h:Mut S w) (hb:Below w.heap.size w w'):Mut S w' :=
 ⟨fun b hs=>Fz (h.lt b hs) hb.size,fun b o v hs=>by rw[hb.cell (p:=⟨b,o,none⟩) (h.lt b hs)];exact h.no b o v hs⟩
def iR (cs:Array Value):Prop:=∀ (j:Nat) (v:Int),cs[j]?≠some (.int .u8 v)
def iL:Value→Bool
 | .int .u8 _ => false
 | _ => true
theorem dA (cs:List Value) (h:cs.all iL=true):iR cs.toArray:=fun j v e=>by
 have e':cs[j]?=some (.int .u8 v):=by simpa using e
 have h1:=List.all_eq_true.1 h _ (FN e');cases h1
theorem Mut.dY {S:Nat→Prop} {w w':World} {g:Nat} {cs:Array Value} {t:TypeId} (h:Mut S w) (hx:Ex (fun b=>b=g) w w') (hb:Bx w' g cs t) (hn:iR cs):Mut S w':=by
 refine⟨fun b hs=>Fz (h.lt b hs) hx.size,fun b o v hs=>?_⟩;by_cases e:b=g
 ·subst e
  rw[hb.cell];exact hn o v
 ·rw[hx.cell (h.lt b hs) e]
  exact h.no b o v hs
theorem Mut.add {S:Nat→Prop} {w:World} {g:Nat} {cs:Array Value} {t:TypeId} (h:Mut S w) (hb:Bx w g cs t) (hn:iR cs):Mut (fun b=>S b∨b=g) w:=by
 refine⟨fun b hs=>?_,fun b o v hs=>?_⟩
 ·rcases hs with hs|rfl
  ·exact h.lt b hs
  ·exact hb.lt
 ·rcases hs with hs|rfl
  ·exact h.no b o v hs
  ·rw[hb.cell]
   exact hn o v
theorem Mut.none (w:World):Mut (fun _=>False) w:=⟨fun _ h=>h.elim,fun _ _ _ h=>h.elim⟩
theorem sq {w:World} {m:Nat} {es:Array MapEntry} {ck:Nat} (h:w.heap[m]?=some (.map es ck)) (o:Nat):w.cell? ⟨m,o,none⟩=none:=by
 unfold World.cell?;rw[h]
theorem Mut.DU {S:Nat→Prop} {w:World} {m:Nat} {es:Array MapEntry} {ck:Nat} (h:Mut S w) (hm:w.heap[m]?=some (.map es ck)):Mut (fun b=>S b∨b=m) w:=by
 refine⟨fun b hs=>?_,fun b o v hs=>?_⟩
 ·rcases hs with hs|rfl
  ·exact h.lt b hs
  ·exact(Array.getElem?_eq_some_iff.1 hm).1
 ·rcases hs with hs|rfl
  ·exact h.no b o v hs
  ·rw[sq hm]
   intro e;cases e
theorem Mut.rO {S:Nat→Prop} {w w':World} {m:Nat} {es:Array MapEntry} {ck:Nat} (h:Mut S w) (hx:Ex (fun b=>b=m) w w') (hm:w'.heap[m]?=some (.map es ck)):Mut S w':=by
 refine⟨fun b hs=>Fz (h.lt b hs) hx.size,fun b o v hs=>?_⟩;by_cases e:b=m
 ·subst e
  rw[sq hm];intro e;cases e
 ·rw[hx.cell (h.lt b hs) e]
  exact h.no b o v hs
def Wd (S S':Nat→Prop) (w:World):Prop:=∀ b,b<w.heap.size→S' b→S b
theorem Wd.refl (S:Nat→Prop) (w:World):Wd S S w:=fun _ _ h=>h
theorem Wd.add {S S':Nat→Prop} {w:World} {g:Nat} (h:Wd S S' w) (hg:w.heap.size≤g):Wd S (fun b=>S' b∨b=g) w:=fun b hb hs=>by
 rcases hs with hs|rfl
 ·exact h b hb hs
 ·omega
theorem Wd.trans {S S' S'':Nat→Prop} {w w':World} (h:Wd S S' w) (h':Wd S' S'' w') (hs:w.heap.size≤w'.heap.size):Wd S S'' w:=fun b hb h2=>h b hb (h' b (Fz hb hs) h2)
theorem cj.kC {S:Nat→Prop} {w:World} {a:Option Addr} {n size:Nat} {xs:List Value} (h:cj w a n size xs) (hm:Mut S w) {j:Nat} {v:Int} (hj:xs[j]?=some (.int .u8 v)):Av (cM S) a n:=fun hn p hp hs=>by
 obtain⟨b,off,ha,_,hc⟩:=h.2.2 hn;rw[ha] at hp;cases hp
 exact hm.no b _ v hs (hc j _ hj)
theorem BL.kC {S:Nat→Prop} {w:World} {a:Option Addr} {n:Nat} {l:List B8} (h:BL w a n l) (hm:Mut S w):Av (cM S) a n:=fun hn=>by
 obtain⟨h1,h2⟩:=h;cases l with
 | nil => simp at h1; omega
 | cons x l => exact cj.kC (j := 0) (v := x.z0) h2 hm rfl hn
theorem PL.kC {S:Nat→Prop} {w:World} {a:Option Addr} {n:Nat} {l:List Pt} (h:PL w a n l) (hm:Mut S w):Av (cM S) a n:=fun hn=>by
 obtain⟨h1,h2⟩:=h;cases l with
 | nil => simp at h1; omega
 | cons x l => exact cj.kC (j := 1) (v := x.d.z0) h2 hm rfl hn
theorem cj.ltA {w:World} {a:Option Addr} {n size:Nat} {xs:List Value} (h:cj w a n size xs):Av (fun b=>b<w.heap.size) a n:=fun hn p hp=>by
 obtain⟨b,off,ha,hlt,_⟩:=h.2.2 hn;rw[ha] at hp;cases hp
 exact hlt
theorem cj.ext {S:Nat→Prop} {w w':World} {a:Option Addr} {n size:Nat} {xs:List Value} (h:cj w a n size xs) (hx:Ex S w w') (hp:Av (cM S) a n):cj w' a n size xs:=by
 refine⟨h.1,h.2.1,fun hn=>?_⟩;obtain⟨b,off,ha,hlt,hc⟩:=h.2.2 hn;refine⟨b,off,ha,Fz hlt hx.size,fun j u hj=>?_⟩;rw[hx.cell hlt (hp hn _ ha)];exact hc j u hj
def BLo (S:Nat→Prop) (w:World) (a:Option Addr) (n:Nat) (l:List B8):Prop:=BL w a n l∧Av (cM S) a n
def PLo (S:Nat→Prop) (w:World) (a:Option Addr) (n:Nat) (l:List Pt):Prop:=PL w a n l∧Av (cM S) a n
def Ino (S:Nat→Prop) (w:World) (a:Option Addr) (n:Nat) (l:List Int):Prop:=ay w a n l∧Av (cM S) a n
def Byo (S:Nat→Prop) (w:World) (a:Option Addr) (n:Nat) (l:List Int):Prop:=Bytes w a n l∧Av (cM S) a n
section
variable {S S':Nat→Prop} {w w':World} {a:Option Addr} {n:Nat}
theorem Av.ext {P:Nat→Prop} (h:Av (cM S) a n) (hl:Av P a n) (hw:∀ b,P b→S' b→S b):Av (cM S') a n:=fun hn p hp hs=>h hn p hp (hw _ (hl hn p hp) hs)
theorem BLo.ext {l:List B8} (h:BLo S w a n l) (hx:Ex S w w'):BLo S w' a n l:=⟨⟨h.1.1,h.1.2.ext hx h.2⟩,h.2⟩
theorem PLo.ext {l:List Pt} (h:PLo S w a n l) (hx:Ex S w w'):PLo S w' a n l:=⟨⟨h.1.1,h.1.2.ext hx h.2⟩,h.2⟩
theorem Ino.ext {l:List Int} (h:Ino S w a n l) (hx:Ex S w w'):Ino S w' a n l:=⟨h.1.ext hx.toExt h.2 (fun _ _ hh=>hh),h.2⟩
theorem Byo.ext {l:List Int} (h:Byo S w a n l) (hx:Ex S w w'):Byo S w' a n l:=⟨h.1.ext hx.toExt h.2 (fun _ _ hh=>hh),h.2⟩
theorem BLo.wd {l:List B8} (h:BLo S w a n l) (hw:Wd S S' w):BLo S' w a n l:=⟨h.1,h.2.ext h.1.2.ltA (fun b hb=>hw b hb)⟩
theorem PLo.wd {l:List Pt} (h:PLo S w a n l) (hw:Wd S S' w):PLo S' w a n l:=⟨h.1,h.2.ext h.1.2.ltA (fun b hb=>hw b hb)⟩
theorem Ino.wd {l:List Int} (h:Ino S w a n l) (hw:Wd S S' w):Ino S' w a n l:=⟨h.1,h.2.ext h.1.lt_ (fun b hb=>hw b hb)⟩
theorem Byo.wd {l:List Int} (h:Byo S w a n l) (hw:Wd S S' w):Byo S' w a n l:=⟨h.1,h.2.ext h.1.ltA (fun b hb=>hw b hb)⟩
theorem BLo.nil (S:Nat→Prop) (w:World):BLo S w none 0 []:=⟨BL.nil w,fun h=>absurd h (by omega)⟩
theorem PLo.nil (S:Nat→Prop) (w:World):PLo S w none 0 []:=⟨PL.nil w,fun h=>absurd h (by omega)⟩
theorem ay.nil (w:World):ay w none 0 []:=⟨rfl,by rw[aC];omega,fun h=>absurd h (by omega)⟩
theorem Ino.nil (S:Nat→Prop) (w:World):Ino S w none 0 []:=⟨⟨rfl,by rw[aC];omega,fun h=>absurd h (by omega)⟩,fun h=>absurd h (by omega)⟩
theorem Av.new {B:Nat} (hm:Mut S w) (hB:w.heap.size≤B) (h:∀ p,a=some p→B≤p.block):Av (cM S) a n:=fun _ p hp hs=>by
 have h1:=hm.lt _ hs;have h2:=h p hp;omega
theorem au.blo {B c:Nat} {l:List B8} (h:au w' B (.slice a n c) l) (hm:Mut S w) (hB:w.heap.size≤B):BLo S w' a n l∧n≤c:=by
 obtain⟨a',c',hv,hc,hr,hp⟩:=aB h;cases hv
 exact⟨⟨⟨rfl,hr⟩,Av.new hm hB hp⟩,hc⟩
theorem bh.plo {B c:Nat} {l:List Pt} (h:bh w' B (.slice a n c) l) (hm:Mut S w) (hB:w.heap.size≤B):PLo S w' a n l∧n≤c:=by
 obtain⟨a',c',hv,hc,hr,hp⟩:=aB h;cases hv
 exact⟨⟨⟨rfl,hr⟩,Av.new hm hB hp⟩,hc⟩
end
def ELF (P:Nat→Prop) (w:World) (a:Option Addr) (k:Nat) (es:List Ep):Prop :=
 es.length=k∧k≤maxLen∧(0<k→∃ b off,a=some ⟨b,off,none⟩∧P b∧b<w.heap.size∧∀ i e,es[i]?=some e→∃ ai ni ci,w.cell? ⟨b,off+i*2,none⟩=some (.int .i64 e.num)∧w.cell? ⟨b,off+i*2+1,none⟩=some (.slice ai ni ci)∧PL w ai ni e.aJ∧ni≤ci∧Av P ai ni)
theorem ELF.nil (P:Nat→Prop) (w:World):ELF P w none 0 []:=⟨rfl,by rw[aC];omega,fun h=>absurd h (by omega)⟩
theorem ELF.el {P:Nat→Prop} {w:World} {a:Option Addr} {k:Nat} {es:List Ep} (h:ELF P w a k es):EL w a k es:=by
 obtain⟨h1,h2,h4⟩:=h;refine⟨h1,h2,fun hp=>?_⟩;obtain⟨b,off,ha,_,hlt,hc⟩:=h4 hp;refine⟨b,off,ha,hlt,fun i e he=>?_⟩;obtain⟨ai,ni,ci,c1,c2,c3,c4,_⟩:=hc i e he;exact⟨ai,ni,ci,c1,c2,c3,c4⟩
theorem ELF.imp {P P':Nat→Prop} {w:World} {a:Option Addr} {k:Nat} {es:List Ep} (h:ELF P w a k es) (hi:∀ b,b<w.heap.size→P b→P' b):ELF P' w a k es:=by
 obtain⟨h1,h2,h4⟩:=h;refine⟨h1,h2,fun hp=>?_⟩;obtain⟨b,off,ha,hb,hlt,hc⟩:=h4 hp;refine⟨b,off,ha,hi b hlt hb,hlt,fun i e he=>?_⟩;obtain⟨ai,ni,ci,c1,c2,c3,c4,c5⟩:=hc i e he;exact⟨ai,ni,ci,c1,c2,c3,c4,fun hn p hp=>hi _ (c3.2.ltA hn p hp) (c5 hn p hp)⟩
theorem ELF.EB {P:Nat→Prop} {B:Nat} {w:World} {a:Option Addr} {k:Nat} {es:List Ep} (h:ELA B w a k es) (hi:∀ b,b<w.heap.size→B≤b→P b):ELF P w a k es:=by
 have h0:ELF (fun b=>B≤b) w a k es:=h;exact h0.imp hi
theorem ELF.ext {S:Nat→Prop} {w w':World} {a:Option Addr} {k:Nat} {es:List Ep} (h:ELF (cM S) w a k es) (hx:Ex S w w'):ELF (cM S) w' a k es:=by
 obtain⟨h1,h2,h4⟩:=h;refine⟨h1,h2,fun hp=>?_⟩;obtain⟨b,off,ha,hb,hlt,hc⟩:=h4 hp;refine⟨b,off,ha,hb,Fz hlt hx.size,fun i e he=>?_⟩;obtain⟨ai,ni,ci,c1,c2,c3,c4,c5⟩:=hc i e he;exact⟨ai,ni,ci,(hx.cell hlt hb).trans c1,(hx.cell hlt hb).trans c2,⟨c3.1,c3.2.ext hx c5⟩,c4,c5⟩
theorem ELF.wd {S S':Nat→Prop} {w:World} {a:Option Addr} {k:Nat} {es:List Ep} (h:ELF (cM S) w a k es) (hw:Wd S S' w):ELF (cM S') w a k es:=h.imp fun b hb hn hs=>hn (hw b hb hs)
structure Buo (S:Nat→Prop) (w:World) (oa:Option Addr) (on oc:Nat) (sa:Option Addr) (sn sc:Nat) (op:List Pt) (se:List Ep):Prop where
 op:PLo S w oa on op
 se:ELF (cM S) w sa sn se
 oc:on≤oc
 sc:sn≤sc
theorem Buo.nil (S:Nat→Prop) (w:World):Buo S w none 0 0 none 0 0 [] []:=⟨PLo.nil S w,ELF.nil _ w,FG _,FG _⟩
theorem Buo.ext {S:Nat→Prop} {w w':World} {oa:Option Addr} {on oc:Nat} {sa:Option Addr} {sn sc:Nat} {op:List Pt} {se:List Ep} (h:Buo S w oa on oc sa sn sc op se) (hx:Ex S w w'):Buo S w' oa on oc sa sn sc op se:=⟨h.op.ext hx,h.se.ext hx,h.oc,h.sc⟩
theorem Buo.wd {S S':Nat→Prop} {w:World} {oa:Option Addr} {on oc:Nat} {sa:Option Addr} {sn sc:Nat} {op:List Pt} {se:List Ep} (h:Buo S w oa on oc sa sn sc op se) (hw:Wd S S' w):Buo S' w oa on oc sa sn sc op se:=⟨h.op.wd hw,h.se.wd hw,h.oc,h.sc⟩
theorem fQ.buo {S:Nat→Prop} {w w':World} {B:Nat} {v:Value} {b:Bu} (h:fQ B w' v b) (hm:Mut S w) (hB:w.heap.size≤B):∃ oa on oc sa sn sc,v=.agg #[.int .i64 b.num,.slice oa on oc,.slice sa sn sc,.bool b.be]∧Buo S w' oa on oc sa sn sc b.op b.se:=by
 obtain⟨oa,on,oc,sa,sn,sc,hv,h1,h5,h2,h3,h4⟩:=h;refine⟨oa,on,oc,sa,sn,sc,hv,⟨h1,fun hn p hp hs=>?_⟩,ELF.EB h2 (fun b _ hb hs=>?_),h3,h4⟩
 ·have e1:=hm.lt _ hs
  have e2:=h5 hn p hp;omega
 ·have e1:=hm.lt _ hs
  omega
theorem FLF.oJ {S:Nat→Prop} {w w':World} {a:Option Addr} {k:Nat} {fs:List Fr} (h:FLF (cM S) w a k fs) (hx:Ex S w w'):FLF (cM S) w' a k fs:=h.ext hx.toExt (fun _ _ hh=>hh)
theorem FLF.wd {S S':Nat→Prop} {w:World} {a:Option Addr} {k:Nat} {fs:List Fr} (h:FLF (cM S) w a k fs) (hw:Wd S S' w):FLF (cM S') w a k fs:=h.imp fun b hb hn hs=>hn (hw b hb hs)
theorem SdA.sdo {S:Nat→Prop} {w w':World} {B:Nat} {v:Value} {s:Sd} (h:SdA B w' v s) (hm:Mut S w) (hB:w.heap.size≤B):∃ qa qn qc,v=.agg #[.int .i64 s.ses,.int .i64 s.base,.slice qa qn qc]∧FLF (cM S) w' qa qn s.q∧qn≤qc:=by
 obtain⟨qa,qn,qc,hv,h1,h2⟩:=h;exact⟨qa,qn,qc,hv,FLF.yU h1 (fun b _ hb hs=>by have e1:=hm.lt _ hs;omega),h2⟩
def Nd (S:Nat→Prop) (w:World) (g n:Nat) (bl:List B8) (a b:Int):Prop :=
 S g∧∃ h ls sa sc pa pc,StW w g n h ls [] (-1) sa sc pa 0 pc∧Mx.Hd n h ls bl a b∧Av (cM S) sa (Mx.sz n)
theorem Nd.later {S:Nat→Prop} {w w':World} {g n:Nat} {bl:List B8} {a b:Int} (h:Nd S w g n bl a b) (hb:Below w.heap.size w w'):Nd S w' g n bl a b:=by
 obtain⟨h0,h,ls,sa,sc,pa,pc,h1,h2,h3⟩:=h;exact⟨h0,h,ls,sa,sc,pa,pc,h1.later hb,h2,h3⟩
theorem Nd.wd {S S':Nat→Prop} {w:World} {g n:Nat} {bl:List B8} {a b:Int} (h:Nd S w g n bl a b) (hw:Wd S S' w) (hg:S' g):Nd S' w g n bl a b:=by
 obtain⟨h0,h,ls,sa,sc,pa,pc,h1,h2,h3⟩:=h;exact⟨hg,h,ls,sa,sc,pa,pc,h1,h2,h3.ext h1.bl.2.ltA (fun b hb=>hw b hb)⟩
theorem Nd.ext {S T:Nat→Prop} {w w':World} {g n:Nat} {bl:List B8} {a b:Int} (h:Nd S w g n bl a b) (hx:Ex T w w') (hT:∀ b,T b→S b) (hg:¬T g):Nd S w' g n bl a b:=by
 obtain⟨h0,h,ls,sa,sc,pa,pc,h1,h2,h3⟩:=h;refine⟨h0,h,ls,sa,sc,pa,pc,{h1 with bx:=?_,bl:=?_,pl:=?_},h2,h3⟩
 ·exact Ex.bx hx h1.bx hg
 ·exact⟨h1.bl.1,h1.bl.2.ext hx (fun hn p hp ht=>h3 hn p hp (hT _ ht))⟩
 ·refine⟨h1.pl.1,h1.pl.2.ext hx (fun hn=>absurd hn (by omega))⟩
theorem StW.other {w w':World} {g n h x:Nat} {ls:List B8} {left:Int} {sa:Option Addr} {sc:Nat} {pa:Option Addr} {pc:Nat} {cs:Array Value} {t:TypeId} (hs:StW w g n h ls [] left sa sc pa 0 pc) (hx:Ex (fun b=>b=x) w w') (hb:Bx w x cs t) (hn:iR cs) (hne:g≠x):StW w' g n h ls [] left sa sc pa 0 pc:=by
 have hm:=(Mut.none w).add hb hn;refine {hs with bx:=Ex.bx hx hs.bx hne,bl:=⟨hs.bl.1,hs.bl.2.ext hx ?_⟩,pl:=⟨hs.pl.1,hs.pl.2.ext hx (fun hn=>absurd hn (by omega))⟩};intro h0 p hp hq;exact BL.kC hs.bl hm h0 p hp (.inr hq)
theorem nR {n h:Nat} {sa:Option Addr} {sn sc:Nat} {pa:Option Addr} {pn pc:Nat} {left:Int}:iR #[.int .i64 (n:Int),.int .i64 (h:Int),.slice sa sn sc,.slice pa pn pc,.int .i64 left]:=by
 intro j v
 match j with
 | 0 => simp
 | 1 => simp
 | 2 => simp
 | 3 => simp
 | 4 => simp
 | j + 5 => simp
theorem Nd.of {S:Nat→Prop} {w:World} {g n h:Nat} {ls bl:List B8} {a b:Int} {sa:Option Addr} {sc:Nat} {pa:Option Addr} {pc:Nat} (hs:StW w g n h ls [] (-1) sa sc pa 0 pc) (hd:Mx.Hd n h ls bl a b) (hm:Mut S w) (hg:S g):Nd S w g n bl a b :=
 ⟨hg,h,ls,sa,sc,pa,pc,hs,hd,BL.kC hs.bl hm⟩
def eF (S:Nat→Prop) (w w':World) (g n:Nat) (bl:List B8) (a b:Int):Prop:=w.heap.size≤g∧Mut (fun b=>S b∨b=g) w'∧Nd (fun b=>S b∨b=g) w' g n bl a b
theorem eF.of {S:Nat→Prop} {w w':World} {g n h:Nat} {ls bl:List B8} {a b:Int} {sa:Option Addr} {sc:Nat} {pa:Option Addr} {pc:Nat} (hg:w.heap.size≤g) (hs:StW w' g n h ls [] (-1) sa sc pa 0 pc) (hd:Mx.Hd n h ls bl a b) (hm:Mut S w) (hb:Below w.heap.size w w'):eF S w w' g n bl a b:=by
 have h1:=(hm.later hb).add hs.bx nR;exact⟨hg,h1,Nd.of hs hd h1 (.inr rfl)⟩
theorem eF.low {S:Nat→Prop} {w v w':World} {g n:Nat} {bl:List B8} {a b:Int} (h:eF S v w' g n bl a b) (hw:w.heap.size≤v.heap.size):eF S w w' g n bl a b:=⟨FM hw h.1,h.2⟩
theorem eF.later {S:Nat→Prop} {w w' w'':World} {g n:Nat} {bl:List B8} {a b:Int} (h:eF S w w' g n bl a b) (hb:Below w'.heap.size w' w''):eF S w w'' g n bl a b:=⟨h.1,h.2.1.later hb,h.2.2.later hb⟩
theorem Nd.box {S:Nat→Prop} {w w':World} {g n x:Nat} {bl:List B8} {a b:Int} {cs:Array Value} {t:TypeId} (h:Nd S w g n bl a b) (hx:Ex (fun b=>b=x) w w') (hb:Bx w x cs t) (hn:iR cs) (hne:g≠x):Nd S w' g n bl a b:=by
 obtain⟨h0,h,ls,sa,sc,pa,pc,h1,h2,h3⟩:=h;exact⟨h0,h,ls,sa,sc,pa,pc,h1.other hx hb hn hne,h2,h3⟩
theorem Mut.off {S:Nat→Prop} {w w':World} {x:Nat} (h:Mut S w) (hx:Ex (fun b=>b=x) w w') (hn:¬S x):Mut S w' :=
 ⟨fun b hs=>Fz (h.lt b hs) hx.size,fun b o v hs=>by rw[hx.cell (h.lt b hs) (fun e=>hn (e▸hs))];exact h.no b o v hs⟩
theorem eF.box {S:Nat→Prop} {w w' w'':World} {g n x:Nat} {bl:List B8} {a b:Int} {cs:Array Value} {t:TypeId} (h:eF S w w' g n bl a b) (hx:Ex (fun b=>b=x) w' w'') (hb:Bx w' x cs t) (hn:iR cs) (hne:g≠x) (hs:¬S x):eF S w w'' g n bl a b :=
 ⟨h.1,h.2.1.off hx (fun e=>by rcases e with e|e;exact hs e;exact hne e.symm),h.2.2.box hx hb hn hne⟩
end
namespace Mx
def dX (x:Int) (m:Nat):Int:=(if x<0 then -(x+1) else x)%(m:Int)
theorem fY {x:Int} {m:Nat} (h:0<m):0≤dX x m∧dX x m<(m:Int):=⟨Int.emod_nonneg _ (by omega),Int.emod_lt_of_pos _ (by omega)⟩
end Mx
theorem kP (x:Int) (m:Nat) (w:World) (h0:-9223372036854775808≤x) (h1:x≤9223372036854775807) (hm:0<m) (hm2:m≤1000000) :
 Calls Tryz.prog 48 #[.int .i64 x,.int .i64 (m:Int)] w fun e w'=>e=.returned (.int .i64 (Mx.dX x m))∧Hid (w'=w):=by
 have hm3:¬(m:Int)=0:=by omega
 by_cases hx:x<0
 ·have HE:=aa (show Mx.dX x m=(-(x+1))%(m:Int) by unfold Mx.dX;rw[if_pos hx])
  have HT:=aa (show -(Int.tmod (x+1) (m:Int))=(-(x+1))%(m:Int) by rw[←Int.neg_tmod];exact Int.tmod_eq_emod_of_nonneg (by omega));rw[HE.o];have hb1:0≤(-(x+1))%(m:Int):=Int.emod_nonneg _ hm3;have hb2:(-(x+1))%(m:Int)<(m:Int):=Int.emod_lt_of_pos _ (by omega);have hn1:0≤-(x+1):=by omega
  have hn2:-(x+1)≤9223372036854775807:=by omega
  go_enter Tryz.func48,Tryz.ntmps48;go_wp2_with fail;exact bodyPost_ret (v:=.int .i64 (-(Int.tmod (x+1) (m:Int)))) (by simp[results,Tryz.results48,go_sem]) rfl ⟨by rw[HT.o],aa rfl⟩
 ·have HE:=aa (show Mx.dX x m=x%(m:Int) by unfold Mx.dX;rw[if_neg hx])
  rw[HE.o];have hb1:0≤x%(m:Int):=Int.emod_nonneg _ hm3;have hb2:x%(m:Int)<(m:Int):=Int.emod_lt_of_pos _ (by omega);have hx0:0≤x:=by omega
  go_enter Tryz.func48,Tryz.ntmps48;go_wp2_with fail;exact bodyPost_ret (v:=.int .i64 (x%(m:Int))) (by simp[results,Tryz.results48,go_sem]) rfl ⟨rfl,aa rfl⟩
theorem lK {p:Option Addr} {x:Int}:iR #[.pointer p,.int .i64 x]:=by
 intro j v
 match j with
 | 0 => simp
 | 1 => simp
 | j + 2 => simp
theorem Ex.eo (w:World) (g:Nat) (s0 s1:Value):Ex (fun b=>b=g) w (eo w g s0 s1):=Ex.one (iM (ar w (some g)) s0 s1)
theorem sw (S:Nat→Prop) (sa:Option Addr) (sc n h:Nat) (ls bl:List B8) (a b:Int) (w:World) (hm:Mut S w) (hs:BL w sa (Mx.sz n) ls) (hd:Mx.Hd n h ls bl a b) :
 Calls Tryz.prog 54 #[.agg #[.slice sa (Mx.sz n) sc,.slice none 0 0,.int .i64 (-1)],.int .i64 (n:Int)] w fun e w'=>∃ g,e=.returned (.tuple #[.agg #[.pointer (some ⟨g,0,none⟩),.int .i64 (n:Int)],.nilIface])∧Hid (eF S w w' g n bl a b)∧Hid (Below w.heap.size w w'):=by
 obtain⟨W0,hW0⟩:∃ W0:World,Hid (W0=(w.alloc (.cells #[.slice sa (Mx.sz n) sc,.slice none 0 0,.int .i64 (-1)] 127)).alloc (.cells #[.pointer none,.int .i64 0] 86)):=⟨_,rfl⟩
 have X0:=aa (show Bx W0 w.heap.size #[.slice sa (Mx.sz n) sc,.slice none 0 0,.int .i64 (-1)] 127 by rw[hW0.o];exact(Bx.new w _ _).alloc _);have R0:=aa (show Bx W0 (w.heap.size+1) #[.pointer none,.int .i64 0] 86 by
  rw[hW0.o];have h:=Bx.new (w.alloc (.cells #[.slice sa (Mx.sz n) sc,.slice none 0 0,.int .i64 (-1)] 127)) #[.pointer none,.int .i64 0] 86;rw[World.size_alloc] at h;exact h)
 have D0:=aa (show Below w.heap.size w W0 by rw[hW0.o];exact(af _ _).alloc (by simp) _);have S0:=aa (show W0.heap.size=w.heap.size+2 by rw[hW0.o];simp);have HS:=aa (hs.later D0.o);have HM:=aa hm;have HD:=aa hd;clear hs hm hd;obtain⟨x0,x1,x2⟩:=X0.o.three;go_enter Tryz.func54,Tryz.ntmps54;go_wp2_with fail;rw[←hW0.o];go_wp2_with fail;refine(Df sa none (Mx.sz n) sc 0 0 (-1) n ls [] W0 HS.o (PL.nil W0) HD.o.n1 HD.o.n2 rfl (Mx.lW HD.o.n2) rfl (by omega) (by omega) (by omega) _ rfl h HD.o.mark HD.o.mk0).mono ?_;rintro e w1 ⟨g,a1,c1,a2,c2,rfl,G1,T1,B1⟩;have R1:=aa (R0.o.later B1.o (by rw[S0.o];omega));obtain⟨r0,r1⟩:=R1.o.pair;have rz:=R1.o.frozen;have D1:=aa (D0.o.trans (B1.o.mono D0.o.size));clear x0 x1 x2;go_wp2_with fail;obtain⟨t0,t1⟩:=(R1.o.fC (.pointer (some ⟨g,0,none⟩)) (.int .i64 (n:Int))).pair;have hgx:g≠w.heap.size+1:=by have h1:=G1.o;have h2:=S0.o;omega
 have BF:=aa (dL D1.o (g:=w.heap.size+1) (by omega) (.pointer (some ⟨g,0,none⟩)) (.int .i64 (n:Int)));have TF:=aa (T1.o.other (Ex.eo w1 (w.heap.size+1) (.pointer (some ⟨g,0,none⟩)) (.int .i64 (n:Int))) R1.o lK hgx);exact bodyPost_ret (v:=.tuple #[.agg #[.pointer (some ⟨g,0,none⟩),.int .i64 (n:Int)],.nilIface]) (by simp[results,Tryz.results54,go_sem,t0,t1]) rfl ⟨g,rfl,aa (eF.of (by have h1:=G1.o;have h2:=S0.o;omega) TF.o HD.o HM.o BF.o),BF⟩
theorem nP (S:Nat→Prop) (n:Nat) (w:World) (hm:Mut S w) (h1:1≤n) (h2:n≤32) :
 Calls Tryz.prog 38 #[.int .i64 (n:Int)] w fun e w'=>∃ g,e=.returned (.tuple #[.agg #[.pointer (some ⟨g,0,none⟩),.int .i64 (n:Int)],.nilIface])∧Hid (eF S w w' g n (List.replicate n zB) 0 0)∧Hid (Below w.heap.size w w'):=by
 obtain⟨W0,hW0⟩:∃ W0:World,Hid (W0=w.alloc (.cells #[.pointer none,.int .i64 0] 86)):=⟨_,rfl⟩
 have R0:=bxA hW0;have D0:=beA hW0;have HM:=aa hm;clear hm;go_enter Tryz.func38,Tryz.ntmps38;go_wp2_with fail;rw[←hW0.o];refine(yt n W0 h1 h2).mono ?_;rintro e w1 ⟨a,c,rfl,B1,E1⟩;obtain⟨N,hN⟩:∃ N:Nat,Hid (N=Mx.sz n):=⟨_,rfl⟩
 rw[←hN.o];obtain⟨W2,hW2⟩:∃ W2:World,Hid (W2=w1.alloc (.cells #[.slice a N c,.slice none 0 0,.int .i64 (-1)] 127)):=⟨_,rfl⟩
 have D1:=aa (D0.o.trans (E1.o.mono D0.o.size));have D2:=aa (show Below w.heap.size w W2 by rw[hW2.o];exact D1.o.alloc D1.o.size _);have E2:=beA hW2;have X2:=bxA hW2;have R2:=aa ((R0.o.later E1.o R0.o.lt).later E2.o (Fz R0.o.lt E1.o.size));have B2:=aa (B1.o.later E2.o);obtain⟨x0,x1,x2⟩:=X2.o.three;go_wp2_with fail;rw[←hW2.o];go_wp2_with fail;rw[hN.o];refine(sw S a c n 0 _ (List.replicate n zB) 0 0 W2 (HM.o.later D2.o) B2.o (Mx.Hd.zero h1 h2)).mono ?_;rintro e w3 ⟨g,rfl,G3,E3⟩;have R3:=aa (R2.o.later E3.o R2.o.lt);obtain⟨r0,r1⟩:=R3.o.pair;have rz:=R3.o.frozen;have D3:=aa (D2.o.trans (E3.o.mono D2.o.size));clear x0 x1 x2;go_wp2_with fail;obtain⟨t0,t1⟩:=(R3.o.fC (.pointer (some ⟨g,0,none⟩)) (.int .i64 (n:Int))).pair;have hgx:g≠w.heap.size:=by have h1:=G3.o.1;have h2:=R2.o.lt;omega
 have hns:¬S w.heap.size:=fun hs=>by have:=HM.o.lt _ hs;omega
 exact bodyPost_ret (v:=.tuple #[.agg #[.pointer (some ⟨g,0,none⟩),.int .i64 (n:Int)],.nilIface]) (by simp[results,Tryz.results38,go_sem,t0,t1]) rfl ⟨g,rfl,aa ((G3.o.low D2.o.size).box (Ex.eo w3 w.heap.size _ _) R3.o lK hgx hns),aa (dL D3.o (FG _) _ _)⟩
/-- what a node finds that begins anew -/
theorem oC (S:Nat→Prop) (g n:Nat) (bl:List B8) (a b:Int) (w:World) (hm:Mut S w) (hn:Nd S w g n bl a b) :
 Calls Tryz.prog 35 #[.agg #[.pointer (some ⟨g,0,none⟩),.int .i64 (n:Int)]] w fun e w'=>∃ g',e=.returned (.tuple #[.agg #[.pointer (some ⟨g',0,none⟩),.int .i64 (n:Int)],.nilIface])∧Hid (eF S w w' g' n bl a b)∧Hid (Below w.heap.size w w'):=by
 obtain⟨W0,hW0⟩:∃ W0:World,Hid (W0=(w.alloc (.cells #[.pointer (some ⟨g,0,none⟩),.int .i64 (n:Int)] 86)).alloc (.cells #[.pointer none,.int .i64 0] 86)):=⟨_,rfl⟩
 have X0:=aa (show Bx W0 w.heap.size #[.pointer (some ⟨g,0,none⟩),.int .i64 (n:Int)] 86 by rw[hW0.o];exact(Bx.new w _ _).alloc _);have R0:=aa (show Bx W0 (w.heap.size+1) #[.pointer none,.int .i64 0] 86 by
  rw[hW0.o];have h:=Bx.new (w.alloc (.cells #[.pointer (some ⟨g,0,none⟩),.int .i64 (n:Int)] 86)) #[.pointer none,.int .i64 0] 86;rw[World.size_alloc] at h;exact h)
 have D0:=aa (show Below w.heap.size w W0 by rw[hW0.o];exact(af _ _).alloc (by simp) _);have S0:=aa (show W0.heap.size=w.heap.size+2 by rw[hW0.o];simp);obtain⟨_,h,ls,sa,sc,pa,pc,T0,HD,_⟩:=hn;have HT:=aa (T0.later D0.o);have HM:=aa hm;have HD:=aa HD;clear hm T0;obtain⟨x0,x1⟩:=X0.o.pair;go_enter Tryz.func35,Tryz.ntmps35;go_wp2_with fail;rw[←hW0.o];go_wp2_with fail;refine(zT g n h ls [] (-1) sa sc pa 0 pc W0 HT.o (by omega)).mono ?_;rintro e w1 ⟨a1,c1,a2,c2,rfl,K1,E1⟩;obtain⟨N,hN⟩:∃ N:Nat,Hid (N=Mx.sz n):=⟨_,rfl⟩
 rw[←hN.o];go_wp2_with fail;rw[hN.o];refine(xV a1 a2 none (Mx.sz n) c1 0 c2 0 0 (-1) ls [] [] w1 K1.o.bl K1.o.pl (ay.nil w1) (fun z hz=>by simp at hz) (Mx.lW HD.o.n2)).mono ?_;rintro e w2 ⟨a3,c3,rfl,B2,E2⟩;rw[←hN.o];obtain⟨W3,hW3⟩:∃ W3:World,Hid (W3=w2.alloc (.cells #[.slice a3 N c3,.slice none 0 0,.int .i64 (-1)] 127)):=⟨_,rfl⟩
 have D1:=aa (D0.o.trans (E1.o.mono D0.o.size));have D2:=aa (D1.o.trans (E2.o.mono D1.o.size));have D3:=aa (show Below w.heap.size w W3 by rw[hW3.o];exact D2.o.alloc D2.o.size _);have E3:=beA hW3;have F3:=aa (show Below W0.heap.size W0 W3 from(E1.o.trans (E2.o.mono E1.o.size)).trans (E3.o.mono (FM E1.o.size E2.o.size)));have X3:=bxA hW3;have Y3:=aa (X0.o.later F3.o X0.o.lt);have R3:=aa (R0.o.later F3.o R0.o.lt);have B3:=aa (B2.o.later E3.o);clear x0 x1;obtain⟨x0,x1,x2⟩:=X3.o.three;obtain⟨y0,y1⟩:=Y3.o.pair;go_upto_region 2 with fail
 rw[←hW3.o];go_wp2_with fail;rw[hN.o];refine(sw S a3 c3 n h ls bl a b W3 (HM.o.later D3.o) B3.o HD.o).mono ?_;rintro e w4 ⟨g',rfl,G4,E4⟩;have R4:=aa (R3.o.later E4.o R3.o.lt);obtain⟨r0,r1⟩:=R4.o.pair;have rz:=R4.o.frozen;have D4:=aa (D3.o.trans (E4.o.mono D3.o.size));clear x0 x1 x2 y0 y1;go_wp2_with fail;obtain⟨t0,t1⟩:=(R4.o.fC (.pointer (some ⟨g',0,none⟩)) (.int .i64 (n:Int))).pair;have hgx:g'≠w.heap.size+1:=by have h1:=G4.o.1;have h2:=R3.o.lt;omega
 have hns:¬S (w.heap.size+1):=fun hs=>by have:=HM.o.lt _ hs;omega
 exact bodyPost_ret (v:=.tuple #[.agg #[.pointer (some ⟨g',0,none⟩),.int .i64 (n:Int)],.nilIface]) (by simp[results,Tryz.results35,go_sem,t0,t1]) rfl ⟨g',rfl,aa ((G4.o.low D3.o.size).box (Ex.eo w4 (w.heap.size+1) _ _) R4.o lK hgx hns),aa (dL D4.o (by omega) _ _)⟩
end Go.Proofs.YtbicgjafjjihdaaGreat
