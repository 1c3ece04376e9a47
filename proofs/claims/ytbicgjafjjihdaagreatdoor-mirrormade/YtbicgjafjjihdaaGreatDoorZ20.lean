/- Part. -/
import Derived.Deep.RegionLaw
import Derived.Test.YtbicgjafjjihdaaGreatDoorZ19
set_option maxHeartbeats 16000000
set_option maxRecDepth 100000
namespace Go.Proofs.YtbicgjafjjihdaaGreatDoor
open Go.RowKit
section
section
variable {X:Nat→Prop} {w0 w:World} {g:Nat} {ses base:Int} {q:List Fr} {want:Int} {ns:List (Bool × List Int)} {cm:List Int} {ok:Bool} {qa:Option Addr} {qn qc:Nat} {nv cv:Value}
end
theorem dN (kind:Int) (l:List Int) (n:Nat) (bs:List Int):0<(Mx.aY kind l n bs).length:=by
 rw[Mx.aY,Ge,Mx.ia];omega
end
section
abbrev Of_:=Mx.Mir.Ot Fr (List B8)
def Obx (w:World) (O g n:Nat) (ses want:Int) (na:Option Addr) (nn nc:Nat) (ha:Option Addr) (hn hc:Nat):Prop :=
 Bx w O #[.pointer (some ⟨g,0,none⟩),.int .i64 (n:Int),.int .i64 ses,.int .i64 want,.slice na nn nc,.slice ha hn hc] 93
section
variable {w:World} {O g n:Nat} {ses want:Int} {na:Option Addr} {nn nc:Nat} {ha:Option Addr} {hn hc:Nat}
theorem Obx.cells (h:Obx w O g n ses want na nn nc ha hn hc) :
 w.cell? ⟨O,0,none⟩=some (.pointer (some ⟨g,0,none⟩))∧w.cell? ⟨O,1,none⟩=some (.int .i64 (n:Int))∧w.cell? ⟨O,2,none⟩=some (.int .i64 ses)∧w.cell? ⟨O,3,none⟩=some (.int .i64 want)∧w.cell? ⟨O,4,none⟩=some (.slice na nn nc)∧w.cell? ⟨O,5,none⟩=some (.slice ha hn hc) :=
 ⟨Bx.cell h 0,Bx.cell h 1,Bx.cell h 2,Bx.cell h 3,Bx.cell h 4,Bx.cell h 5⟩
theorem fW:iV #[.pointer (some ⟨g,0,none⟩),.int .i64 (n:Int),.int .i64 ses,.int .i64 want,.slice na nn nc,.slice ha hn hc]:=dB _ rfl
end
def eu (o:Of_):List Int:=(o.got.map Fr.al).flatten
structure OtR (S:Nat→Prop) (w:World) (n:Nat) (ae:List (List B8)) (o:Of_) (g:Nat) (na:Option Addr) (nn nc:Nat) (ha:Option Addr) (hn hc:Nat):Prop where
 nd:∃ bl,ae[o.back]?=some bl∧Nd S w g n bl (o.back:Int) (o.sb:Int)
 nu:Ino S w na nn (eu o)
 nc:nn≤nc
 hd:BLo S w ha hn o.had
 hc:hn≤hc
 fg:o.bG=decide (o.want=2147483647)
structure OtX (B S:Nat→Prop) (w:World) (O n:Nat) (ae:List (List B8)) (o:Of_) (g:Nat) (na:Option Addr) (nn nc:Nat) (ha:Option Addr) (hn hc:Nat):Prop where
 bx:Obx w O g n (o.sb:Int) (o.want:Int) na nn nc ha hn hc
 r:OtR S w n ae o g na nn nc ha hn hc
 aO:B O
 ag:B g
 sub:∀ b,B b→S b
def OtW (B S:Nat→Prop) (w:World) (O n:Nat) (ae:List (List B8)) (o:Of_):Prop:=∃ g na nn nc ha hn hc,OtX B S w O n ae o g na nn nc ha hn hc
section
variable {B S S' T:Nat→Prop} {w w':World} {O n:Nat} {ae:List (List B8)} {o:Of_} {g:Nat} {na:Option Addr} {nn nc:Nat} {ha:Option Addr} {hn hc:Nat}
theorem OtR.ext (h:OtR S w n ae o g na nn nc ha hn hc) (hx:Ex T w w') (hT:∀ b,T b→S b) (hg:¬T g):OtR S w' n ae o g na nn nc ha hn hc:=by
 have hS:=hx.mono (fun b _ hb=>hT b hb);obtain⟨bl,h1,h2⟩:=h.nd;exact⟨⟨bl,h1,h2.ext hx hT hg⟩,h.nu.ext hS,h.nc,h.hd.ext hS,h.hc,h.fg⟩
theorem OtR.wd (h:OtR S w n ae o g na nn nc ha hn hc) (hw:Wd S S' w) (hg:S' g):OtR S' w n ae o g na nn nc ha hn hc:=by
 obtain⟨bl,h1,h2⟩:=h.nd;exact⟨⟨bl,h1,h2.wd hw hg⟩,h.nu.wd hw,h.nc,h.hd.wd hw,h.hc,h.fg⟩
theorem OtX.frame (h:OtX B S w O n ae o g na nn nc ha hn hc) (hx:Ex T w w') (hT:∀ b,T b→S b) (hB:∀ b,B b→¬T b):OtX B S w' O n ae o g na nn nc ha hn hc:=⟨Ex.bx hx h.bx (hB _ h.aO),h.r.ext hx hT (hB _ h.ag),h.aO,h.ag,h.sub⟩
theorem OtX.later (h:OtX B S w O n ae o g na nn nc ha hn hc) (hb:Gq w w'):OtX B S w' O n ae o g na nn nc ha hn hc:=h.frame (T:=fun _=>False) (Ex.below hb) (fun _ hh=>hh.elim) (fun _ _ hh=>hh)
theorem OtX.ne (h:OtX B S w O n ae o g na nn nc ha hn hc):O≠g:=by
 obtain⟨bl,_,_,_,_,_,_,_,_,T,_⟩:=h.r.nd;have h1:w.heap[O]?=some (.cells _ 93 (0,0)):=h.bx;have h2:w.heap[g]?=some (.cells _ 137 (0,0)):=T.bx;rintro rfl;rw[h1] at h2;simp at h2
theorem OtW.frame (h:OtW B S w O n ae o) (hx:Ex T w w') (hT:∀ b,T b→S b) (hB:∀ b,B b→¬T b):OtW B S w' O n ae o:=by
 obtain⟨g,na,nn,nc,ha,hn,hc,X⟩:=h;exact⟨g,na,nn,nc,ha,hn,hc,X.frame hx hT hB⟩
theorem OtW.later (h:OtW B S w O n ae o) (hb:Gq w w'):OtW B S w' O n ae o:=h.frame (T:=fun _=>False) (Ex.below hb) (fun _ hh=>hh.elim) (fun _ _ hh=>hh)
theorem OtW.wd (h:OtW B S w O n ae o) (hw:Wd S S' w) (hB:∀ b,B b→S' b):OtW B S' w O n ae o:=by
 obtain⟨g,na,nn,nc,ha,hn,hc,X⟩:=h;exact⟨g,na,nn,nc,ha,hn,hc,X.bx,X.r.wd hw (hB _ X.ag),X.aO,X.ag,hB⟩
theorem OtW.more (h:OtW B S w O n ae o) (more:List (List B8)):OtW B S w O n (ae++more) o:=by
 obtain⟨g,na,nn,nc,ha,hn,hc,X⟩:=h;obtain⟨bl,h1,h2⟩:=X.r.nd;exact⟨g,na,nn,nc,ha,hn,hc,X.bx,{X.r with nd:=⟨bl,by rw[Gm (Gh.1 h1).1];exact h1,h2⟩},X.aO,X.ag,X.sub⟩
end
structure OtD (B S:Nat→Prop) (w w':World) (O n:Nat) (ae:List (List B8)) (o:Of_):Prop where
 mu:Mut S w'
 ot:OtW B S w' O n ae o
 ext:Ex B w w'
theorem OtD.same {B S:Nat→Prop} {w w':World} {O n:Nat} {ae:List (List B8)} {o:Of_} (hm:Mut S w) (ho:OtW B S w O n ae o) (hb:Gq w w'):OtD B S w w' O n ae o:=⟨hm.later hb,ho.later hb,Ex.below hb⟩
def cU (S:Nat→Prop) (w:World) (v:Value):Option (List Int)→Prop
 | none => v = .slice none 0 0
 | some l => ∃ a c, v = .slice (some a) l.length c ∧ Byo S w (some a) l.length l ∧ l.length ≤ c
theorem cU.of {S:Nat→Prop} {w w':World} {B:Nat} {v:Value} {l:List Int} (h:Own w' B v l) (hm:Mut S w) (hB:w.heap.size≤B) (hl:0<l.length) (hb:∀ x∈l,0≤x∧x≤255):cU S w' v (some l):=by
 obtain⟨a,c,hv,hc,hr,hp⟩:=Own.br h;obtain⟨b,off,ha,_⟩:=hr.2.2.2 hl;subst ha;exact⟨_,c,hv,⟨hr.bytes hb,Av.new hm hB hp⟩,hc⟩
theorem jg (w:World) (l:List Int) (cs:Array Value) (h:cs=(l.map (Value.int .i64)).toArray) (t:TypeId) (hl:l.length≤1000):ay (w.alloc (.cells cs t)) (some ⟨w.heap.size,0,none⟩) l.length l:=by
 subst h;refine⟨rfl,by rw[aC];omega,fun _=>⟨w.heap.size,0,rfl,by simp,fun i hi=>?_⟩⟩;have hb:=Bx.new w (l.map (Value.int .i64)).toArray t;rw[Nat.zero_add,hb.cell i];simp[hi]
theorem jh (kind:Int) (a:Option Addr) (n c:Nat) (l:List Int) (w:World) (h1:ay w a n l) (hm:Mx.may kind l 0=0) :
 Calls Tryz.prog 85 #[.int .i64 kind,.slice a n c] w fun e w'=>∃ v,e=.returned (.tuple #[v,.nilIface])∧Hid (Own w' w.heap.size v (Mx.aY kind l 0 []))∧Hid (Gq w w'):=by
 have H1:=aa h1;have HM:=aa hm;clear h1 hm;go_enter Tryz.func85,Tryz.ntmps85;go_wp2_with fail;refine(oR kind a none n c 0 0 l [] w H1.o (fT w) HM.o).mono ?_;rintro e w1 ⟨v,rfl,O1,E1⟩;have HO:=aa (show Own w1 w.heap.size v (Mx.aY kind l 0 []) from World.ownsRow.mono O1 (by omega));have HE:=aa E1;clear O1 E1;go_wp2_with fail;exact bodyPost_ret (v:=.tuple #[v,.nilIface]) (by simp[results,Tryz.results85,go_sem]) rfl ⟨v,rfl,HO,HE⟩
theorem fa (O:Nat) (want:Int) (w:World) (hc:w.cell? ⟨O,3,none⟩=some (.int .i64 want)) (r:Bool) (hr:(want==2147483647)=r) :
 Calls Tryz.prog 126 #[.pointer (some ⟨O,0,none⟩)] w fun e w'=>e=.returned (.bool r)∧w'=w:=by
 go_enter Tryz.func126,Tryz.ntmps126;go_wp2_with fail;go_ret;exact⟨rfl,rfl⟩
end
section
variable {w:World} {a:Option Addr} {n b off k:Nat} {x:Int}
theorem iA (l:List B8):aT l=(flat l).map (Value.int .u8):=by
 induction l with
 | nil => rfl
 | cons x l ih =>
  have e1:aT (x::l)=B8.cs x++aT l:=rfl;have e2:flat (x::l)=B8.list x++flat l:=rfl;rw[e1,e2,List.map_append,ih];rfl
theorem aS.bl {l:List B8} (h:aS w a n (flat l)) (hl:l.length=n):BL w a n l:=by
 obtain⟨h1,h2,h3,h4⟩:=h;refine⟨hl,by rw[cw,hl],h2,fun hn=>?_⟩;obtain⟨b,off,ha,hlt,hc⟩:=h4 hn;refine⟨b,off,ha,hlt,fun j u hj=>?_⟩;rw[iA,List.getElem?_map] at hj;cases e:(flat l)[j]? with
 | none => rw [e] at hj; simp at hj
 | some z =>
  rw[e] at hj;simp at hj;subst hj;have hjl:=(Gh.1 e).1;rw[h1] at hjl;have h5:=hc j hjl;rw[Ga,e] at h5;exact h5
theorem BL.Aq {l:List B8} (h:BL w a n l) (hb:∀ x∈l,Mx.by8 x):aS w a n (flat l):=by
 have hfl:(flat l).length=8*n:=by
  have h1:=cw l;rw[iA,List.length_map,h.1] at h1;omega
 refine⟨hfl,h.2.2.1,fun x hx=>?_,fun hn=>?_⟩
 ·obtain⟨y,hy,hxy⟩:=List.mem_flatMap.1 hx
  have h1:=hb y hy;unfold Mx.by8 at h1;simp[B8.list] at hxy;omega
 ·obtain⟨b,off,ha,hlt,hc⟩:=h.2.2.2 hn
  refine⟨b,off,ha,hlt,fun i hi=>hc i _ ?_⟩;rw[iA,List.getElem?_map,Ga,F0 (by omega)];rfl
namespace Mx
theorem xZ {xs:List Int} {bs:List B8} {qs:List Pk} (h:fV (x::xs) bs=some qs) :
 (x/32%4=3∧∃ b bs' qs',bs=b::bs'∧qs=oF x b::qs'∧fV xs bs'=some qs')∨(x/32%4≠3∧∃ qs',qs=oF x zB::qs'∧fV xs bs=some qs'):=by
 rw[fV] at h;by_cases h3:x/32%4=3
 ·rw[if_pos h3] at h
  left;cases bs with
  | nil => simp at h
  | cons b bs' =>
   simp at h;obtain⟨qs',h4,h5⟩:=h;exact⟨h3,b,bs',qs',rfl,h5.symm,h4⟩
 ·rw[if_neg h3] at h
  right;simp at h;obtain⟨qs',h4,h5⟩:=h;exact⟨h3,qs',h5.symm,h4⟩
end Mx
theorem ay.FI {y:Int} {l:List Int} (h:ay w (some ⟨b,off,none⟩) k (x::y::l)):ay w (some ⟨b,off+2,none⟩) (k-2) l∧w.cell? ⟨b,off,none⟩=some (.int .i64 x)∧w.cell? ⟨b,off+1,none⟩=some (.int .i64 y)∧b<w.heap.size∧2≤k:=by
 obtain⟨h1,h2,h3⟩:=h;simp only[List.length_cons] at h1;obtain⟨b',off',ha,hlt,hc⟩:=h3 (by omega);simp only[Option.some.injEq,Addr.mk.injEq,and_true] at ha;obtain⟨rfl,rfl⟩:=ha;refine⟨⟨by omega,by omega,fun _=>⟨b,off+2,rfl,hlt,fun i hi=>?_⟩⟩,?_,?_,hlt,by omega⟩
 ·have:=hc (i+2) (by omega)
  rw[show off+2+i=off+(i+2) by omega];simpa using this
 ·simpa using hc 0 (by omega)
 ·simpa using hc 1 (by omega)
theorem ay.none_:ay w a 0 []:=⟨rfl,by rw[aC];omega,fun h=>absurd h (by omega)⟩
theorem BL.none_:BL w a 0 []:=⟨rfl,rfl,by rw[aC];omega,fun h=>absurd h (by omega)⟩
theorem BL.FH {x:B8} {l:List B8} (h:BL w (some ⟨b,off,none⟩) k (x::l)):BL w (some ⟨b,off+8,none⟩) (k-1) l:=by
 obtain⟨h1,h2,h3,h4⟩:=h;simp only[List.length_cons] at h1;refine⟨by omega,by rw[cw];omega,by omega,fun hn=>?_⟩;obtain⟨b',off',ha,hlt,hc⟩:=h4 (by omega);simp only[Option.some.injEq,Addr.mk.injEq,and_true] at ha;obtain⟨rfl,rfl⟩:=ha;refine⟨b,off+8,rfl,hlt,fun j u hj=>?_⟩;have:=hc (8+j) u (by
  have e1:aT (x::l)=B8.cs x++aT l:=rfl;rw[e1,Gl (by simp[B8.cs])];simpa [B8.cs] using hj)
 rw[show off+8+j=off+(8+j) by omega];exact this
end
section
abbrev Rc_:=Mx.Mir.Rc Fr (List B8)
abbrev Lt_:=Mx.Mir.Lt Fr
namespace Mx.Mir
variable {M H:Type} {Good:Nat→H→List M→Nat→H→Prop} {z:H} {p:Fs M H} {o:Ot M H} {r:Rc M H}
theorem oL (p:Fs M H):(bQ p).s=p.s:=by unfold bQ;split<;>rfl
theorem FQ (l:Lt M):(ev z p o r l).1.s≤p.s+1:=by
 cases l with
 | dV => simp [ev]
 | opn s =>
  simp only[ev];split
  ·simp
  ·split
   ·simp
   ·split<;>simp
 | msg s k f =>
  simp only[ev];split
  ·simp
  ·split
   ·simp
   ·split
    ·simp
    ·split<;>simp
 | hav s x => simp only [ev]; split <;> simp [oL]
 | gone s =>
  simp only[ev];split
  ·simp[opened]
  ·simp[oL]
 | ack s k => simp only [ev]; split <;> simp [oL]
theorem Cu (l:Lt M):((ev z p o r l).2.2.1.bu+(ev z p o r l).2.2.1.ms.length≤r.bu+r.ms.length)∧((ev z p o r l).2.2.1.eL=r.eL∨(ev z p o r l).2.2.1.eL=z):=by
 cases l with
 | dV => simp [ev]
 | opn s =>
  simp only[ev];split
  ·simp
  ·split
   ·simp[none_]
   ·split<;>simp
 | msg s k f =>
  simp only[ev];split
  ·simp
  ·split
   ·simp
   ·split
    ·simp
    ·split<;>simp
 | hav s x => simp only [ev]; split <;> simp
 | gone s => simp only [ev]; split <;> simp
 | ack s k => simp only [ev]; split <;> simp
theorem CX (h:Core Good z p o r) {l:Lt M} (hl:LOK p o r l):o.back≤(ev z p o r l).2.1.back:=by
 cases l with
 | dV => simp [ev]
 | opn s =>
  simp only[ev];split
  ·simp
  ·split
   ·simp[rV]
   ·split<;>simp
 | msg s k f =>
  unfold ev;by_cases h1:s≠o.sb
  ·simp only[if_pos h1];exact Gi _
  ·simp only[if_neg h1]
   have e1:s=o.sb:=Decidable.not_not.mp h1;by_cases h2:o.bG=true
   ·simp only[if_pos h2];exact Gi _
   ·simp only[if_neg h2]
    have e2:o.bG=false:=by simpa using h2
    by_cases h3:k≠o.want
    ·simp only[if_pos h3];exact Gi _
    ·simp only[if_neg h3]
     have e3:k=o.want:=Decidable.not_not.mp h3;rw[e1,e3] at hl;obtain⟨hm,hj⟩:=wanted h e2 hl;by_cases h4:r.j+1=r.ms.length
     ·simp only[if_pos h4]
      have h5:=h.before hj;have h6:=h.later (by intro e;rw[e] at hj;simp at hj);omega
     ·simp only[if_neg h4];exact Gi _
 | hav s x => simp only [ev]; split <;> simp
 | gone s => simp only [ev]; split <;> simp
 | ack s k => simp only [ev]; split <;> simp
theorem iT.sub {ls ls':List (Lt M)} (h:iT Good z p o r ls) (hs:∀ x∈ls',x=.dV∨x∈ls):iT Good z p o r ls':=⟨h.1,fun x hx=>by
 rcases hs x hx with h1|h1
 ·rw[h1];trivial
 ·exact h.2 x h1⟩
end Mx.Mir
namespace Mx
structure Seen (n:Nat) (ae:List (List B8)) (now:List B8):Prop where
 sl:∀ l∈ae,l.length=n∧∀ x∈l,by8 x
 nl:now.length=n∧∀ x∈now,by8 x
 s0:ae[0]?=some (List.replicate n zB)
structure PaI (n c:Nat) (ae:List (List B8)) (now:List B8) (b:Bu) (p:Pf_) (o:Of_) (r:Rc_) (ls:List Lt_):Prop where
 n1:1≤n
 n2:n≤32
 seen:Seen n ae now
 liv:gk (n:Int) b ae now
 len:ae.length=p.ar+1
 bA:Mir.iT (Good n ae) [] p o r ls
 kn:Mir.Kn p
 rh:bT r.eL=0
 hs:p.s≤c
 hh:p.ar≤c
 hb:r.bu+r.ms.length≤4*c
 hc:c≤1000000
section
variable {n c:Nat} {ae:List (List B8)} {now:List B8} {b:Bu} {p:Pf_} {o:Of_} {r:Rc_} {ls:List Lt_}
theorem mM:bT []=0:=(jf []).2 ⟨by simp,by simp⟩
theorem qC (n:Nat):(List.replicate n zB).length=n∧∀ x∈List.replicate n zB,by8 x:=⟨by simp,fun x hx=>by rw[(List.mem_replicate.1 hx).2];exact iX⟩
theorem zo (h1:1≤n) (h2:n≤32):PaI n 1 [List.replicate n zB] (List.replicate n zB) ⟨0,[],[],false⟩ ⟨0,1,0,false,0,0,[],[]⟩ ⟨0,0,true,2147483647,[],[]⟩ ⟨0,[],0,0,0,[],[]⟩ [] where
 n1:=h1
 n2:=h2
 seen:=⟨fun l hl=>by rw[List.mem_singleton.1 hl];exact qC n,qC n,rfl⟩
 liv:=nN (h:=0) (by omega) rfl (by omega) rfl
 len:=rfl
 bA:=⟨Mir.vB,fun x hx=>by simp at hx⟩
 kn:=Mir.vX rfl
 rh:=mM
 hs:=Gi _
 hh:=Nat.zero_le _
 hb:=Nat.zero_le _
 hc:=by omega
theorem PaI.more (h:PaI n c ae now b p o r ls) {c':Nat} (h1:c≤c') (h2:c'≤1000000):PaI n c' ae now b p o r ls :=
 {h with hs:=Gn h.hs h1,hh:=Gn h.hh h1,hb:=by have:=h.hb;omega,hc:=h2}
theorem PaI.sub (h:PaI n c ae now b p o r ls) {ls':List Lt_} (hs:∀ x∈ls',x=.dV∨x∈ls):PaI n c ae now b p o r ls':={h with bA:=h.bA.sub hs}
theorem PaI.num (h:PaI n c ae now b p o r ls):b.num=(p.ar:Int):=by
 have h1:=h.liv.len;have h2:=h.len;omega
theorem PaI.last (h:PaI n c ae now b p o r ls):∃ bl,ae[p.ar]?=some bl∧bl.length=n∧(∀ x∈bl,by8 x)∧now=lay bl b.op:=by
 obtain⟨l,h1,h2⟩:=h.liv.cur;rw[h.num,Int.toNat_natCast] at h1;have h3:=h.seen.sl l (Gp h1);exact⟨l,h1,h3.1,h3.2,h2⟩
theorem PaI.snap (h:PaI n c ae now b p o r ls) {i:Nat} (hi:i≤p.ar):∃ bl,ae[i]?=some bl∧bl.length=n:=by
 have h1:=h.len;have h2:ae[i]?=some (ae[i]'(by omega)):=F0 (by omega);exact⟨_,h2,(h.seen.sl _ (Gp h2)).1⟩
theorem PaI.by_ (h:PaI n c ae now b p o r ls):∀ l∈ae,∀ x∈l,by8 x:=fun l hl=>(h.seen.sl l hl).2
theorem PaI.ev (h:PaI n c ae now b p o r ls) {i:Nat} {l:Lt_} (hl:ls[i]?=some l) {b':Bu} (hb:gk (n:Int) b' ae now) (hc:c+1≤1000000) :
 PaI n (c+1) ae now b' (Mir.ev [] p o r l).1 (Mir.ev [] p o r l).2.1 (Mir.ev [] p o r l).2.2.1 (ls.eraseIdx i++(Mir.ev [] p o r l).2.2.2.toList) where
 n1:=h.n1
 n2:=h.n2
 seen:=h.seen
 liv:=hb
 len:=by rw[Mir.uD];exact h.len
 bA:=Mir.CY (h.bA.sub fun x hx=>.inr ((List.eraseIdx_sublist _ _).subset hx)) (h.bA.2 l (Gp hl))
 kn:=Mir.Ft h.kn l
 rh:=by
  rcases(Mir.Cu (z:=([]:List B8)) (p:=p) (o:=o) (r:=r) l).2 with e|e
  ·rw[e];exact h.rh
  ·rw[e];exact mM
 hs:=Gn (Mir.FQ l) (by have:=h.hs;omega)
 hh:=by rw[Mir.uD];have:=h.hh;omega
 hb:=by have h1:=(Mir.Cu (z:=([]:List B8)) (p:=p) (o:=o) (r:=r) l).1;have h2:=h.hb;omega
 hc:=hc
theorem PaI.fe (h:PaI n c ae now b p o r ls) {p':Pf_} {r':Rc_} {l:List Lt_} (hs:Mir.jE (Good n ae) p r p' r' l) (hc:c+1≤1000000):PaI n (c+1) ae now b p' o r' (ls++l) where
 n1:=h.n1
 n2:=h.n2
 seen:=h.seen
 liv:=h.liv
 len:=by rw[Mir.qq hs];exact h.len
 bA:=Mir.zY h.bA hs
 kn:=Mir.DZ h.kn hs
 rh:=by
  cases hs with
  | opn _ => exact h.rh
  | again _ _ => exact h.rh
  | offer hk hq hg hm h4 hgood =>
   obtain⟨u,base,fin,_,_,_,_,_,g1,_,_,_,_,g2,_⟩:=hgood;show bT _=0
   rw[g2];exact pL g1 _
 hs:=by
  have:=h.hs;cases hs with
  | opn _ => omega
  | again _ _ => omega
  | offer _ _ _ _ _ _ => show p.s ≤ _; omega
 hh:=by rw[Mir.qq hs];have:=h.hh;omega
 hb:=by
  have h1:=h.hb;cases hs with
  | opn _ => omega
  | again _ _ => omega
  | offer hk hq hg hm h4 hgood =>
   rename_i ms d;have h2:=Mir.iH h.bA.1 hk hq;show p.base+ms.length≤4*(c+1)
   omega
 hc:=hc
theorem PaI.write (h:PaI n c ae now b p o r ls) {at_:Int} {d:B8} (h0:0≤at_) (h1:at_<(n:Int)) (hd:by8 d):PaI n c ae (dI now ⟨at_,d⟩) (fF b ⟨at_,d⟩) p o r ls :=
 {h with
  seen:=⟨h.seen.sl,⟨by unfold dI;rw[List.length_set];exact h.seen.nl.1,fun x hx=>by
   unfold dI at hx;rcases List.mem_or_eq_of_mem_set hx with hx|hx
   ·exact h.seen.nl.2 x hx
   ·rw[hx];exact hd⟩,h.seen.s0⟩
  liv:=Ba h.liv h0 h1}
theorem PaI.CH (h:PaI n c ae now b p o r ls) (hc:c+1≤1000000):PaI n (c+1) (ae++[now]) now (bS b) {p with ar:=p.ar+1} o r ls where
 n1:=h.n1
 n2:=h.n2
 seen:=⟨fun l hl=>by
  rcases List.mem_append.1 hl with hl|hl
  ·exact h.seen.sl l hl
  ·rw[List.mem_singleton.1 hl];exact h.seen.nl,h.seen.nl,by rw[Gm (by have:=h.len;omega)];exact h.seen.s0⟩
 liv:=yx h.liv (by rw[h.num];have:=h.hh;omega)
 len:=by rw[Ge,h.len];rfl
 bA:=⟨Mir.rH (h.bA.1.mono fun _ _ _ _ _ g=>g.mono),fun l hl=>Mir.tK (h.bA.2 l hl)⟩
 kn:=h.kn
 rh:=h.rh
 hs:=by have:=h.hs;show p.s≤_;omega
 hh:=by have:=h.hh;show p.ar+1≤_;omega
 hb:=by have:=h.hb;omega
 hc:=hc
theorem PaI.EA (h:PaI n c ae now b p o r ls) {bl:List B8} (hbl:ae[p.ar]?=some bl) (hc:c+1≤1000000):PaI n (c+1) ae bl ⟨(p.ar:Int),[],[],false⟩ ⟨p.ar,p.s+1,0,false,0,0,[],[]⟩ o r ls where
 n1:=h.n1
 n2:=h.n2
 seen:=⟨h.seen.sl,h.seen.sl bl (Gp hbl),h.seen.s0⟩
 liv:=nN (by have h1:=h.n1;have h2:=h.n2;omega) h.len (by have:=h.hh;have:=h.hc;omega) hbl
 len:=h.len
 bA:=⟨Mir.pv h.bA.1 0 0 (Nat.zero_le _),fun l hl=>Mir.si h.bA.1 0 0 (h.bA.2 l hl)⟩
 kn:=Mir.vX rfl
 rh:=h.rh
 hs:=by have:=h.hs;show p.s+1≤_;omega
 hh:=by have:=h.hh;show p.ar≤_;omega
 hb:=by have:=h.hb;omega
 hc:=hc
theorem PaI.Ez (h:PaI n c ae now b p o r ls):PaI n c ae now b p ⟨o.back,o.sb,true,2147483647,[],[]⟩ r ls :=
 {h with bA:=⟨Mir.vC h.bA.1 _ _ _,fun l hl=>Mir.yA _ _ _ (h.bA.2 l hl)⟩}
theorem um {u:Upd} (h1:0≤u.from_∧u.from_≤2147483647) (h2:0≤u.to_∧u.to_≤2147483647) (hq:∀ q∈u.qs,QW q):∀ x∈u.al,0≤x∧x≤2147483647:=by
 intro x hx;unfold Upd.al at hx;rcases List.mem_cons.1 hx with rfl|hx
 ·exact h1
 rcases List.mem_cons.1 hx with rfl|hx
 ·exact h2
 obtain⟨q,hq1,rfl⟩:=List.mem_map.1 hx;have:=lV (hq q hq1);omega
theorem wq {l c:List Int} (h:c∈bU l) {x:Int} (hx:x∈c):x∈l:=by
 unfold bU at h;obtain⟨i,_,rfl⟩:=List.mem_map.mp h;exact List.mem_of_mem_drop (List.mem_of_mem_take hx)
theorem wu {l c:List Int} (h:c∈bU l):0<c.length:=by
 unfold bU at h;obtain⟨i,hi,rfl⟩:=List.mem_map.mp h;have h1:=List.mem_range.1 hi;rw[Gk,List.length_drop];omega
theorem Upd.uR {u:Upd} {f:Fr} (h:f∈u.msgs):f.al∈bU u.al∧(f.kind=0∨f.kind=1)∧f.nb≤u.qs.length∧f.bs.length=8*f.nb:=by
 have hne:bU u.al≠[]:=by
  intro e;have h1:=iL u.al;rw[e,u.gQ] at h1;simp at h1;omega
 unfold Upd.msgs at h;rcases List.mem_append.mp h with h|h
 ·obtain⟨c,hc,rfl⟩:=List.mem_map.mp h
  exact⟨(List.dropLast_sublist _).subset hc,.inl rfl,Nat.zero_le _,rfl⟩
 ·rw[List.mem_singleton.mp h]
  refine⟨?_,.inr rfl,sg _,?_⟩
  ·show(bU u.al).getLast?.getD []∈_
   rw[List.getLast?_eq_some_getLast hne,Option.getD_some];exact List.getLast_mem hne
  ·show(flat _).length=_
   have h1:=cw (bH u.qs);rw[iA,List.length_map] at h1;simp only;omega
theorem ly {prev to_:Nat} {il eL:List B8} {ms:List Fr} (h:Good n ae prev il ms to_ eL) (h1:prev≤2147483647) (h2:to_≤2147483647):∀ f∈ms,bZ f=0∧f.kind≤15∧f.bs.length=8*f.nb∧(∀ x∈f.bs,0≤x∧x≤255):=by
 obtain⟨u,base,fin,g1,g2,g3,g4,g5,_,_,_,_,_,_,_,g6,_⟩:=h;intro f hf;rw[g1] at hf;obtain⟨k1,k2,k3,k4⟩:=Upd.uR hf;have hn:=um (u:=u) (by rcases g5 with ⟨e,_⟩|⟨e,_⟩<;>omega) (by omega) g2;refine⟨su (lG (by omega) (by have:=Upd.pQ hf;omega) fun j hj=>?_) (by have:=Upd.pQ hf;omega),by omega,k4,fun x hx=>?_⟩
 ·have h3:=hn _ (wq k1 (List.getElem_mem hj))
  rw[Ga,F0 hj];unfold bj;simp only[Option.getD_some];simp;omega
 ·unfold Upd.msgs at hf
  rcases List.mem_append.mp hf with hf|hf
  ·obtain⟨c,hc,rfl⟩:=List.mem_map.mp hf
   simp at hx
  ·rw[List.mem_singleton.mp hf] at hx
   obtain⟨y,hy,hxy⟩:=List.mem_flatMap.1 (show x∈(bH u.qs).flatMap B8.list from hx);unfold bH at hy;obtain⟨q,hq,rfl⟩:=List.mem_map.1 hy;have h1:=g6 q (List.mem_filter.1 hq).1;unfold by8 at h1;simp[B8.list] at hxy;omega
theorem PaI.ms (h:PaI n c ae now b p o r ls):∀ f∈r.ms,bZ f=0∧f.kind≤15∧f.bs.length=8*f.nb∧(∀ x∈f.bs,0≤x∧x≤255):=by
 intro f hf;have hne:r.ms≠[]:=by intro e;rw[e] at hf;simp at hf
 have h1:=h.bA.1.later hne;have h2:=h.bA.1.to_;have h3:=h.hh;have h4:=h.hc;exact ly (h.bA.1.vN hne) (by omega) (by omega) f hf
theorem PaI.queue (h:PaI n c ae now b p o r ls):p.queue.length≤4∧(∀ f∈p.queue,f∈r.ms)∧p.base+p.queue.length≤4*c:=by
 have h4:=h.bA.1.four;have hb:=h.hb;cases hk:p.known with
 | true =>
  have h1:=h.bA.1.nM hk;have h2:=h.bA.1.nK hk;have h3:=h.bA.1.jl;refine⟨by rw[h1,List.length_drop];omega,fun f hf=>?_,by rw[h1,List.length_drop];omega⟩;rw[h1] at hf;exact List.mem_of_mem_drop hf
 | false =>
  obtain⟨h1,h2,_⟩:=h.bA.1.nU hk;rw[h1,h2];exact⟨Nat.zero_le _,fun f hf=>by simp at hf,Nat.zero_le _⟩
theorem PaI.sd (h:PaI n c ae now b p o r ls):bD ⟨(p.s:Int),(p.base:Int),p.queue⟩=0:=by
 obtain⟨h1,h2,h3⟩:=h.queue;have h4:=h.hs;have h5:=h.hc;rw[oX (by unfold de;simp only;omega) (by simp only;omega)];exact mT fun f hf=>(h.ms f (h2 f hf)).1
theorem PaI.dX (h:PaI n c ae now b p o r ls):dX ⟨(p.s:Int),(p.base:Int),p.queue⟩=0:=by
 obtain⟨h1,h2,h3⟩:=h.queue;have h5:=h.hc;refine ve h.sd fun k hk=>?_
 unfold jk at hk;simp only at hk ⊢;omega
theorem PaI.had (h:PaI n c ae now b p o r ls):bT p.had=0:=by
 cases hk:p.known with
 | true => rw [h.bA.1.ES hk]; exact h.rh
 | false => rw [(h.bA.1.nU hk).2.2]; exact mM
end
def fi (t g:Bool) (l:List Int):Lt_→Prop
 | .dV => g = true ∧ ∀ k ns nb bs, ¬ aE l k ns nb bs
 | .opn s => g = false ∧ t = true ∧ aE l 2 [(s : Int)] 0 []
 | .msg s k f => g = false ∧ t = true ∧ Msg l (s : Int) (k : Int) f.kind f.al f.nb f.bs
 | .hav s h => g = false ∧ t = false ∧ aE l 3 [(s : Int), (h : Int)] 0 []
 | .gone s => g = false ∧ t = false ∧ aE l 4 [(s : Int)] 0 []
 | .ack s k => g = false ∧ t = false ∧ aE l 0 [(s : Int), (k : Int)] 0 []
theorem CO (b x n:Nat):fb (b:Int) (x:Int) n=Mir.fv b x n:=by
 unfold fb Mir.fv;by_cases h:b≤x∧x≤b+min n 4
 ·rw[if_pos h]
  by_cases h1:x=b
  ·rw[if_pos (by omega)];omega
  ·rw[if_neg (by omega)];omega
 ·rw[if_neg h,if_pos (by omega)]
end Mx
end
section
structure Le where
 to_:Bool
 a:Option Addr
 n:Nat
 c:Nat
 g:Bool
def Le.cs (x:Le):List Value:=[.bool x.to_,.slice x.a x.n x.c,.bool x.g]
def csL (l:List Le):List Value:=l.flatMap Le.cs
theorem iZ (x:Le) (l:List Le):csL (x::l)=x.cs++csL l:=rfl
theorem jX (l m:List Le):csL (l++m)=csL l++csL m:=by unfold csL;rw[List.flatMap_append]
theorem gO (l:List Le):(csL l).length=l.length*3:=by
 induction l with
 | nil => rfl
 | cons x l ih => rw [iZ, Ge, ih, List.length_cons]; show 3 + _ = _; omega
theorem xW:∀ {l:List Le} {i:Nat} {x:Le},l[i]?=some x→(csL l)[i*3]?=some (.bool x.to_)∧(csL l)[i*3+1]?=some (.slice x.a x.n x.c)∧(csL l)[i*3+2]?=some (.bool x.g)
 | [], i, x, h => by simp at h
 | y :: l, 0, x, h => by
  simp at h;subst h;rw[iZ];exact⟨rfl,rfl,rfl⟩
 | y :: l, i + 1, x, h => by
  have h1:=xW (l:=l) (i:=i) (x:=x) (by simpa using h);rw[iZ];have hc:y.cs.length=3:=rfl;rw[Gl (by omega),Gl (by omega),Gl (by omega),hc,show(i+1)*3-3=i*3 by omega,show(i+1)*3+1-3=i*3+1 by omega,show(i+1)*3+2-3=i*3+2 by omega];exact h1
theorem nC (l:List Le):∀ u∈csL l,iM u=true∧u.oneCell'=true:=by
 intro u hu;obtain⟨x,_,hx⟩:=List.mem_flatMap.1 hu;simp[Le.cs] at hx;rcases hx with rfl|rfl|rfl<;>exact⟨rfl,rfl⟩
theorem qX {z:Array Value} {n:Nat} {u:Value} (h:u∈(Builtin.zeroCells z n).toList):u∈z.toList:=by
 unfold Builtin.zeroCells at h;simp only[Array.toList_map,List.mem_map,Array.toList_range,List.mem_range] at h;obtain⟨i,hi,rfl⟩:=h;have hz:0<z.size:=by
  rcases Nat.eq_zero_or_pos z.size with h|h
  ·rw[h] at hi;omega
  ·exact h
 have hm:=Nat.mod_lt i hz;rw[getElem!_pos z (i%z.size) hm];exact Array.getElem_mem_toList hm
def cG (w:World) (v:Value) (l:List Le):Prop :=
 (v=.slice none 0 0∧l=[])∨∃ g cap cur,v=.slice (some ⟨g,0,none⟩) l.length cap∧w.heap[g]?=some (.cells cur 80 (0,0))∧l.length≤cap∧cap≤maxLen∧cur.size=cap*3∧cur.toList.take (l.length*3)=csL l∧∀ u∈cur.toList,iM u=true
theorem Tryz.infoLe:(Tryz.prog.info? 80).map (fun i=>(i.zero,i.size,i.bytes))=some (some (.agg #[.bool false,.slice none 0 0,.bool false]),3,40):=by kernel_rfl
theorem cG.nil (w:World):cG w (.slice none 0 0) []:=.inl ⟨rfl,rfl⟩
theorem cG.lt {w:World} {v:Value} {l:List Le} (h:cG w v l):∀ k,v.ownBlock=some k→k<w.heap.size:=by
 intro k hk;rcases h with ⟨rfl,_⟩|⟨g,cap,cur,rfl,hg,_⟩
 ·cases hk
 ·cases hk
  exact(Array.getElem?_eq_some_iff.1 hg).1
theorem cG.no {w:World} {v:Value} {l:List Le} (h:cG w v l):∀ k,v.ownBlock=some k→∀ o x,w.cell? ⟨k,o,none⟩≠some (.int .u8 x):=by
 intro k hk o x;rcases h with ⟨rfl,_⟩|⟨g,cap,cur,rfl,hg,_,_,_,_,hn⟩
 ·cases hk
 ·cases hk
  intro e;have hb:Bx w g cur 80:=hg;rw[hb.cell o] at e;have h1:=hn _ (Array.mem_toList_iff.2 (Array.mem_of_getElem? e));cases h1
theorem cG.ext {T:Nat→Prop} {w w':World} {v:Value} {l:List Le} (h:cG w v l) (hx:Ex T w w') (hT:∀ k,v.ownBlock=some k→¬T k):cG w' v l:=by
 rcases h with h|⟨g,cap,cur,rfl,hg,hr⟩
 ·exact .inl h
 ·exact .inr ⟨g,cap,cur,rfl,(hx.block g (Array.getElem?_eq_some_iff.1 hg).1 (hT g rfl)).trans hg,hr⟩
theorem cG.len {w:World} {v:Value} {l:List Le} (h:cG w v l):∃ a cap,v=.slice a l.length cap∧l.length≤cap:=by
 rcases h with ⟨rfl,rfl⟩|⟨g,cap,cur,rfl,_,hc,_⟩
 ·exact⟨none,0,rfl,Gi _⟩
 ·exact⟨_,cap,rfl,hc⟩
theorem cG.at_ {w:World} {v:Value} {l:List Le} (h:cG w v l) {i:Nat} {x:Le} (hx:l[i]?=some x):∃ g cap cur,v=.slice (some ⟨g,0,none⟩) l.length cap∧Bx w g cur 80∧l.length≤cap∧cap≤maxLen∧cur.size=cap*3∧cur.toList.take (l.length*3)=csL l∧(∀ u∈cur.toList,iM u=true) ∧
 w.cell? ⟨g,i*3,none⟩=some (.bool x.to_)∧w.cell? ⟨g,i*3+1,none⟩=some (.slice x.a x.n x.c)∧w.cell? ⟨g,i*3+2,none⟩=some (.bool x.g):=by
 have hil:=(Gh.1 hx).1;rcases h with ⟨rfl,rfl⟩|⟨g,cap,cur,rfl,hg,hc,hm,hs,ht,hn⟩
 ·simp at hx
 ·have hb:Bx w g cur 80:=hg
  obtain⟨k1,k2,k3⟩:=xW hx;have key:∀ j u,j<l.length*3→(csL l)[j]?=some u→w.cell? ⟨g,j,none⟩=some u:=by
   intro j u hj hu;rw[hb.cell j];rw[←ht,List.getElem?_take_of_lt hj,Array.getElem?_toList] at hu;exact hu
  exact⟨g,cap,cur,rfl,hb,hc,hm,hs,ht,hn,key _ _ (by omega) k1,key _ _ (by omega) k2,key _ _ (by omega) k3⟩
theorem qT {w:World} (ty:TypeId) (v:Value) (l:List Le) (h:cG w v l) (h0:Nat) (x:Le) (hB:Bx w h0 x.cs.toArray 80) (hl:l.length≤1000) :
 ∃ v' w',(Builtin.append_ #[69,69] ty #[v,.slice (some ⟨h0,0,none⟩) 1 1]).run Tryz.prog w=.ok v' w'∧cG w' v' (l++[x])∧w.grownBy w' v.ownBlock∧(v'.ownBlock=v.ownBlock∨(v'.ownBlock=some w.heap.size∧w.grownBy w' none)):=by
 obtain⟨i0,hi0,hz0,hz1,hz2⟩:=info_parts Tryz.infoLe;have hlen:x.cs.length=1*i0.size:=by rw[hz1];rfl
 have hnews:∀ j u,x.cs[j]?=some u→w.cell? ((⟨h0,0,none⟩:Addr).add j)=some u:=fun j u hj=>by
  rw[Addr.add_lit,Nat.zero_add,hB.cell j];simpa using hj
 have hone:∀ u∈x.cs,u.oneCell'=true:=fun u hu=>(nC [x] u (by simpa [csL] using hu)).2
 have hno:∀ u∈x.cs,iM u=true:=fun u hu=>(nC [x] u (by simpa [csL] using hu)).1
 have hzn:∀ n u,u∈(Builtin.zeroCells (Value.cells (.agg #[.bool false,.slice none 0 0,.bool false])) n).toList→iM u=true:=fun n u hu=>by
  have h1:=qX hu;have h2:(Value.cells (.agg #[.bool false,.slice none 0 0,.bool false])).toList=[.bool false,.slice none 0 0,.bool false]:=by rfl
  rw[h2] at h1;simp at h1;rcases h1 with rfl|rfl|rfl<;>rfl
 have hzs:(Value.cells (.agg #[.bool false,.slice none 0 0,.bool false])).size=3:=by rfl
 rcases h with ⟨rfl,rfl⟩|⟨g,cap,cur,rfl,hg,hc,hm,hs,ht,hn⟩
 ·have hr:=_root_.Go.run_append_nil (P:=Tryz.prog) w 69 ty 80 i0 _ Tryz.underlying69 hi0 hz0 ⟨h0,0,none⟩ 1 1 x.cs hlen hnews (by omega) (by omega) (by rw[hz2];omega)
  refine⟨_,_,hr,.inr ⟨w.heap.size,_,_,rfl,heap_alloc_new w.drew _,grownCap_ge w 1 0 _,grownCap_le_maxLen w 1 0 _ (by rw[aC];omega),?_,?_,?_⟩,⟨rfl,rfl,rfl,by simp,fun k hk _=>heap_alloc_old w.drew _ hk⟩,.inr ⟨rfl,⟨rfl,rfl,rfl,by simp,fun k hk _=>heap_alloc_old w.drew _ hk⟩⟩⟩
  ·have h1:=grownCap_ge w 1 0 80
   rw[Array.size_append,size_zeroCells,hzs];show 3+_=_
   omega
  ·show List.take 3 _=_
   rw[Array.toList_append];rfl
  ·intro u hu
   rw[Array.toList_append] at hu;rcases List.mem_append.1 hu with hu|hu
   ·exact hno u hu
   ·exact hzn _ u hu
 ·by_cases hroom:l.length+1≤cap
  ·have hr:=_root_.Go.run_append_room (P:=Tryz.prog) w 69 ty 80 i0 Tryz.underlying69 hi0 g l.length cap cur hg ⟨h0,0,none⟩ 1 1 x.cs hlen hnews hone hroom (by rw[hlen,hz1,hs];omega)
   rw[hz1] at hr;refine⟨_,_,hr,.inr ⟨g,cap,_,by rw[Ge];rfl,setRow_heap w g cur _ _ _ hg,by rw[Ge];exact hroom,hm,?_,?_,?_⟩,⟨rfl,rfl,rfl,by simp,fun k _ hk=>setRow_other w g k _ (fun e=>hk (by simp[Value.ownBlock,e]))⟩,.inl rfl⟩
   ·have h3:x.cs.length=3:=rfl
    simp only[List.size_toArray,Ge,Gk,List.length_drop,Array.length_toList,h3];omega
   ·have h3:x.cs.length=3:=rfl
    rw[jX,ht];have h4:(csL l++x.cs).length=(l++[x]).length*3:=by rw[Ge,gO,Ge,h3];simp;omega
    rw[←h4];have h5:csL [x]=x.cs:=by simp[csL]
    rw[h5];exact List.take_left
   ·intro u hu
    simp only[List.mem_append] at hu;rcases hu with (hu|hu)|hu
    ·exact hn u (List.mem_of_mem_take hu)
    ·exact hno u hu
    ·exact hn u (List.mem_of_mem_drop hu)
  ·have holds:∀ j u,(csL l)[j]?=some u→w.cell? ((⟨g,0,none⟩:Addr).add j)=some u:=fun j u hu=>by
    have hb:Bx w g cur 80:=hg;have hj:=(Gh.1 hu).1;rw[gO] at hj;rw[Addr.add_lit,Nat.zero_add,hb.cell j];rw[←ht,List.getElem?_take_of_lt hj,Array.getElem?_toList] at hu;exact hu
   have hr:=_root_.Go.run_append_grow (P:=Tryz.prog) w 69 ty 80 i0 _ Tryz.underlying69 hi0 hz0 ⟨g,0,none⟩ l.length cap (csL l) (by rw[gO,hz1]) holds ⟨h0,0,none⟩ 1 1 x.cs hlen hnews (by omega) (by omega) (growslice_fits (by omega) (by rw[hz2];omega));have hge:=grownCap_ge w (l.length+1) cap 80;refine⟨_,_,hr,.inr ⟨w.heap.size,_,_,by rw[Ge];rfl,heap_alloc_new w.drew _,by rw[Ge];exact hge,grownCap_le_maxLen w _ _ _ (by rw[aC];omega),?_,?_,?_⟩,⟨rfl,rfl,rfl,by simp,fun k hk _=>heap_alloc_old w.drew _ hk⟩,.inr ⟨rfl,⟨rfl,rfl,rfl,by simp,fun k hk _=>heap_alloc_old w.drew _ hk⟩⟩⟩
   ·have h3:x.cs.length=3:=rfl
    simp only[Array.size_append,List.size_toArray,size_zeroCells,hzs,gO,h3];omega
   ·have h3:x.cs.length=3:=rfl
    have h5:csL [x]=x.cs:=by simp[csL]
    rw[jX,h5];have h4:(csL l++x.cs).length=(l++[x]).length*3:=by rw[Ge,gO,Ge,h3];simp;omega
    rw[←h4];simp only[Array.toList_append];exact List.take_left
   ·intro u hu
    simp only[Array.toList_append,List.mem_append] at hu;rcases hu with (hu|hu)|hu
    ·exact(nC l u hu).1
    ·exact hno u hu
    ·exact hzn _ u hu
theorem Mut.upd {S T:Nat→Prop} {w w':World} (h:Mut S w) (hx:Ex T w w') (hn:∀ b,T b→∀ o v,w'.cell? ⟨b,o,.none⟩≠some (.int .u8 v)):Mut S w' :=
 ⟨fun b hs=>Gf (h.lt b hs) hx.size,fun b hs=>by
  by_cases ht:T b
  ·exact Nby.of fun o v=>hn b ht o v
  ·exact(h.no b hs).same fun _=>hx.cell (h.lt b hs) ht⟩
def gJ (S:Nat→Prop) (w:World) (x:Le) (lt:Lt_):Prop:=∃ bs,Byo S w x.a x.n bs∧x.n≤x.c∧0<x.n∧x.n≤2000∧Mx.fi x.to_ x.g bs lt
theorem gJ.ext {S:Nat→Prop} {w w':World} {x:Le} {lt:Lt_} (h:gJ S w x lt) (hx:Ex S w w'):gJ S w' x lt:=by
 obtain⟨bs,h1,h2⟩:=h;exact⟨bs,h1.ext hx,h2⟩
theorem gJ.wd {S S':Nat→Prop} {w:World} {x:Le} {lt:Lt_} (h:gJ S w x lt) (hw:Wd S S' w):gJ S' w x lt:=by
 obtain⟨bs,h1,h2⟩:=h;exact⟨bs,h1.wd hw,h2⟩
structure LiX (C S:Nat→Prop) (w:World) (B P O:Nat) (v:Value) (l:List Le) (ls:List Lt_):Prop where
 bx:Bx w B #[.pointer (some ⟨P,0,none⟩),.pointer (some ⟨O,0,none⟩),v] 73
 row:cG w v l
 cB:C B
 cv:∀ k,v.ownBlock=some k→C k
 sub:∀ b,C b→S b
 len:l.length=ls.length
 lim:l.length≤64
 fi:∀ (i:Nat) (x:Le) (lt:Lt_),l[i]?=some x→ls[i]?=some lt→gJ S w x lt
def LiW (C S:Nat→Prop) (w:World) (B P O:Nat) (ls:List Lt_):Prop:=∃ v l,LiX C S w B P O v l ls
section
variable {C S S' T:Nat→Prop} {w w':World} {B P O:Nat} {v:Value} {l:List Le} {ls:List Lt_}
theorem LiX.ne (h:LiX C S w B P O v l ls):∀ k,v.ownBlock=some k→k≠B:=by
 intro k hk e;subst e;have h1:w.heap[k]?=some (.cells _ 73 (0,0)):=h.bx;rcases h.row with ⟨e,_⟩|⟨g,cap,cur,e,hg,_⟩
 ·rw[e] at hk
  cases hk
 ·rw[e] at hk
  cases hk
  rw[h1] at hg;simp at hg
theorem LiX.frame (h:LiX C S w B P O v l ls) (hx:Ex T w w') (hT:∀ b,T b→S b) (hC:∀ b,C b→¬T b):LiX C S w' B P O v l ls :=
 ⟨Ex.bx hx h.bx (hC _ h.cB),h.row.ext hx (fun k hk=>hC _ (h.cv k hk)),h.cB,h.cv,h.sub,h.len,h.lim,fun i x lt h1 h2=>(h.fi i x lt h1 h2).ext (hx.mono fun b _ hb=>hT b hb)⟩
theorem LiX.wd (h:LiX C S w B P O v l ls) (hw:Wd S S' w) (hC:∀ b,C b→S' b):LiX C S' w B P O v l ls:=⟨h.bx,h.row,h.cB,h.cv,hC,h.len,h.lim,fun i x lt h1 h2=>(h.fi i x lt h1 h2).wd hw⟩
theorem LiW.frame (h:LiW C S w B P O ls) (hx:Ex T w w') (hT:∀ b,T b→S b) (hC:∀ b,C b→¬T b):LiW C S w' B P O ls:=by
 obtain⟨v,l,X⟩:=h;exact⟨v,l,X.frame hx hT hC⟩
theorem LiW.later (h:LiW C S w B P O ls) (hb:Gq w w'):LiW C S w' B P O ls:=h.frame (T:=fun _=>False) (Ex.below hb) (fun _ hh=>hh.elim) (fun _ _ hh=>hh)
theorem LiW.wd (h:LiW C S w B P O ls) (hw:Wd S S' w) (hC:∀ b,C b→S' b):LiW C S' w B P O ls:=by
 obtain⟨v,l,X⟩:=h;exact⟨v,l,X.wd hw hC⟩
theorem LiW.lim (h:LiW C S w B P O ls):ls.length≤64:=by
 obtain⟨v,l,X⟩:=h;rw[←X.len];exact X.lim
end
structure LiB (C S:Nat→Prop) (w w':World) (B P O:Nat) (ls:List Lt_) (N:Nat→Prop):Prop where
 new:∀ b,N b→w.heap.size≤b
 mu:Mut (fun b=>S b∨N b) w'
 ln:LiW (fun b=>C b∨N b) (fun b=>S b∨N b) w' B P O ls
 ext:Ex C w w'
theorem LiB.of {C S:Nat→Prop} {w w':World} {B P O:Nat} {v v':Value} {l l':List Le} {ls ls':List Lt_} (hm:Mut S w) (h:LiX C S w B P O v l ls) (HB:Bx w' B #[.pointer (some ⟨P,0,none⟩),.pointer (some ⟨O,0,none⟩),v'] 73) (hr:cG w' v' l') (hx:Ex (fun b=>b=B∨v.ownBlock=some b) w w')
 (hk:∀ k,v.ownBlock=some k→∀ o x,w'.cell? ⟨k,o,none⟩≠some (.int .u8 x)) (hat:∀ k,v'.ownBlock=some k→v.ownBlock=some k∨w.heap.size≤k) (hl:l'.length=ls'.length) (hlim:l'.length≤64)
 (hmean:∀ (S':Nat→Prop),Mut S' w'→Wd S S' w→(∀ b,S b→S' b)→∀ (i:Nat) (x:Le) (lt:Lt_),l'[i]?=some x→ls'[i]?=some lt→gJ S' w' x lt):LiB C S w w' B P O ls' (fun b=>v'.ownBlock=some b∧w.heap.size≤b):=by
 have hnb:iV #[.pointer (some ⟨P,0,none⟩),.pointer (some ⟨O,0,none⟩),v']:=by
  obtain⟨a,cap,e,_⟩:=hr.len;subst e;exact dB _ rfl
 have hxC:Ex C w w':=hx.mono fun b _ hb=>by
  rcases hb with rfl|hb
  ·exact h.cB
  ·exact h.cv b hb
 have hm1:Mut S w':=hm.upd hx fun b hb o x=>by
  rcases hb with rfl|hb
  ·rw[HB.cell o];exact hnb o x
  ·exact hk b hb o x
 have hm2:Mut (fun b=>S b∨(v'.ownBlock=some b∧w.heap.size≤b)) w':=⟨fun b hb=>by
  rcases hb with hb|hb
  ·exact hm1.lt b hb
  ·exact hr.lt b hb.1,fun b hb=>by
  rcases hb with hb|hb
  ·exact hm1.no b hb
  ·exact Nby.of fun o x=>hr.no b hb.1 o x⟩
 refine⟨fun b hb=>hb.2,hm2,⟨v',l',HB,hr,.inl h.cB,fun k hk2=>?_,fun b hb=>?_,hl,hlim,hmean _ hm2 (fun b hb hs=>?_) (fun b hb=>.inl hb)⟩,hxC⟩
 ·rcases hat k hk2 with h1|h1
  ·exact .inl (h.cv k h1)
  ·exact .inr ⟨hk2,h1⟩
 ·rcases hb with hb|hb
  ·exact .inl (h.sub b hb)
  ·exact .inr hb
 ·rcases hs with hs|hs
  ·exact hs
  ·omega
end
section
variable {w:World} {v:Value}
theorem oZ {ops:Array Oper} {o:Oper} {a:Act} {K:Act→World→Prop} {Q:Exit→Act→World→Prop} {E:Prop} (hgd:o.guard=none) (s y:Operand)
 (ho:o.op=Op.call {callee:=Callee.builtin Builtin.append,args:=#[s,y],argTypes:=#[69,69]}) {l:List Le} (hs:a.eval s=v) (hown:cG w v l) (h0:Nat) {x:Le}
 (hy:a.eval y=.slice (some ⟨h0,0,none⟩) 1 1) (hB:Bx w h0 x.cs.toArray 80) (hl:l.length≤1000)
 (hK:∀ a' n' c' w',Hid (cG w' (.slice a' n' c') (l++[x]))→Hid (w.grownBy w' v.ownBlock)→Hid (Value.ownBlock (.slice a' n' c')=v.ownBlock∨(Value.ownBlock (.slice a' n' c')=some w.heap.size∧w.grownBy w' none))→K (a.put o.dst (.slice a' n' c')) w') :
 if Region.wanted o (yielded ops a.tmps)=true then Oper.wp Tryz.prog o a w K Q else E:=by
 have hw:Region.wanted o (yielded ops a.tmps)=true:=by simp[Region.wanted,hgd]
 rw[if_pos hw];subst hs;obtain⟨v',w',hr,h1,h2,h3⟩:=qT o.type (a.eval s) l hown h0 x hB hl;obtain⟨a',c',e,_⟩:=h1.len;subst e;unfold Oper.wp execOp;simp only[ho,resolve,invoke,builtin,Sem.run_bind,Sem.run_pure,Result.andThen_ok,List.map_toArray,List.map_cons,List.map_nil,hy,hr];exact hK _ _ _ _ h1 h2 h3
theorem cG.later {w':World} {l:List Le} (h:cG w v l) (hb:Gq w w'):cG w' v l:=h.ext (T:=fun _=>False) (Ex.below hb) (fun _ _ hh=>hh)
def fQ (ls:List Lt_) (lt:Lt_):List Lt_:=if ls.length<64 then ls++[lt] else ls
theorem qp (ls:List Lt_) (lt:Lt_):∀ x∈fQ ls lt,x∈ls++[lt]:=by
 intro x hx;unfold fQ at hx;split at hx
 ·exact hx
 ·exact List.mem_append_left _ hx
theorem lF (C S:Nat→Prop) (B P O:Nat) (ls:List Lt_) (w:World) (hm:Mut S w) (hX:LiW C S w B P O ls) (x:Le) (lt:Lt_) (hx:gJ S w x lt) :
 Calls Tryz.prog 47 #[.pointer (some ⟨B,2,none⟩),.agg #[.bool x.to_,.slice x.a x.n x.c,.bool x.g]] w fun e w'=>e=.returned (.tuple #[])∧Hid (∃ N,LiB C S w w' B P O (fQ ls lt) N):=by
 obtain⟨v,l,X⟩:=hX;have HM:=aa hm;have HL:=aa hx;obtain⟨av,cv,hv,hcv⟩:=X.row.len;obtain⟨L,hL⟩:∃ L:Nat,Hid (L=l.length):=⟨_,rfl⟩
 rw[←hL.o] at hv hcv;have hL64:L≤64:=by rw[hL.o];exact X.lim
 subst hv;have HX:=aa X;obtain⟨W0,hW0⟩:∃ W0:World,Hid (W0=w.alloc (.cells #[.bool x.to_,.slice x.a x.n x.c,.bool x.g] 80)):=⟨_,rfl⟩
 have D0:=beA hW0;have X0:=bxA hW0;have P0:=aa (show Bx W0 B #[.pointer (some ⟨P,0,none⟩),.pointer (some ⟨O,0,none⟩),.slice av L cv] 73 from Bx.later X.bx D0.o (Bx.lt X.bx));have R0:=aa (show cG W0 (.slice av L cv) l from X.row.later D0.o);have NE:=aa X.ne;have hBlt:B<W0.heap.size:=Bx.lt P0.o;have hne:¬w.heap.size=B:=by have:=Bx.lt X.bx;omega
 have hne2:¬B=w.heap.size:=fun e=>hne e.symm
 clear X hm hx;obtain⟨p0,p1,p2⟩:=P0.o.three;obtain⟨q0,q1,q2⟩:=X0.o.three;have pf:=P0.o.frozen;by_cases h64:L<64
 ·have h64':(L:Int)<64:=by omega
  have HS:=aa (show fQ ls lt=ls++[lt] by unfold fQ;rw[if_pos (by rw[←HX.o.len,←hL.o];exact h64)]);go_enter Tryz.func47,Tryz.ntmps47;go_upto_region 1 with fail
  rw[←hW0.o];go_upto_region 2 with fail
  go_region_law (first
   |(refine oZ rfl (.tmp 14) (.tmp 16) rfl (v:=.slice av L cv) (l:=l) rfl ?zo1 W0.heap.size (x:=x) rfl ?zo2 ?zo3 ?_;(case zo1=>exact R0.o.later (af _ _).drew);(case zo2=>exact Bx.dj W0 _ _);(case zo3=>rw[←hL.o];omega);intro va vn vc w2 h1 h2 h3;have X2:=aa (show Bx w2 B #[.pointer (some ⟨P,0,none⟩),.pointer (some ⟨O,0,none⟩),.slice av L cv] 73 from Bx.grow (Bx.later P0.o ((af _ _).drew) hBlt) h2.o (fun e=>NE.o B e.symm rfl));have y2:=X2.o.cell 2;have yf:=X2.o.frozen;simp only[Gd,Gc,Gb] at y2))
  all_goals
   obtain⟨w3,hw3⟩:∃ w3:World,Hid (w3=w2.setCell ⟨B,2,none⟩ (.slice va vn vc)):=⟨_,rfl⟩
   obtain⟨v',hvv⟩:∃ v':Value,v'=.slice va vn vc:=⟨_,rfl⟩
   rw[←hvv] at h1 h3 hw3;have hvlt:w.heap.size≤W0.heap.size:=D0.o.size;have G2:=aa (show W0.grownBy w2 (Value.ownBlock (.slice av L cv)) from⟨h2.o.os,h2.o.tape,h2.o.output,Gn (by simp) h2.o.size,fun k hk hn=>(h2.o.block k (by simp;omega) hn).trans (heap_alloc_old W0 _ hk)⟩);have B3:=aa (show Bx w3 B #[.pointer (some ⟨P,0,none⟩),.pointer (some ⟨O,0,none⟩),v'] 73 by rw[hw3.o];exact X2.o.set 2 v');have E3:=aa (show Ex (fun b=>b=B) w2 w3 by rw[hw3.o];exact Ex.one (ak (aq _ _) _ _));have hv':∀ k,v'.ownBlock=some k→k≠B:=by
    intro k hk e;subst e;rcases h3.o with e|⟨e,_⟩
    ·rw[e] at hk
     exact NE.o _ hk rfl
    ·rw[e] at hk
     have:=Gg hk;simp at this;omega
   have R3:=aa (show cG w3 v' (l++[x]) from h1.o.ext E3.o hv');have Z3:=aa (show Ex (fun b=>b=B∨Value.ownBlock (.slice av L cv)=some b) w w3 from((Ex.below D0.o).trans ⟨⟨G2.o.size,fun b hb hn=>G2.o.block b hb (fun e=>hn (.inr e.symm))⟩,G2.o.os,G2.o.tape,G2.o.output⟩).trans (E3.o.mono fun b _ hb=>.inl hb));rw[show w2.setCell ⟨B,2,none⟩ (.slice va vn vc)=w3 by rw[hw3.o,hvv]];clear hvv;go_wp2_with fail;go_end0
   refine⟨rfl,aa ⟨fun b=>v'.ownBlock=some b∧w.heap.size≤b,?_⟩⟩;rw[HS.o];refine LiB.of HM.o HX.o B3.o R3.o Z3.o ?_ ?_ (by rw[Ge,Ge,HX.o.len];rfl) (by rw[Ge,←hL.o];show L+1≤64;omega) ?_
   ·intro k hk o y
    rcases h3.o with e|⟨e,G⟩
    ·exact R3.o.no k (by rw[e];exact hk) o y
    ·have hkl:k<w.heap.size:=HX.o.row.lt k hk
     rw[E3.o.cell (by have:=h2.o.size;simp at this;omega) (fun e=>NE.o k hk e),show w2.cell? ⟨k,o,none⟩=w.cell? ⟨k,o,none⟩ from World.cell?_of_block (((G.block k (by simp;omega) (by simp)).trans (heap_alloc_old W0 _ (by omega))).trans (D0.o.block k hkl))];exact HX.o.row.no k hk o y
   ·intro k hk
    rcases h3.o with e|⟨e,_⟩
    ·left
     rw[←e];exact hk
    ·right
     rw[e] at hk;have:=Gg hk;simp at this;omega
   ·intro S' hm' hw' hs' i y mt hy hmt
    have hEx:Ex S' w w3:=Z3.o.mono fun b _ hb=>hs' b (by
     rcases hb with rfl|hb
     ·exact HX.o.sub _ HX.o.cB
     ·exact HX.o.sub _ (HX.o.cv b hb))
    by_cases hi:i<l.length
    ·rw[Gm hi] at hy
     rw[Gm (by rw[←HX.o.len];exact hi)] at hmt;exact((HX.o.fi i y mt hy hmt).wd hw').ext hEx
    ·rw[Gl (by omega)] at hy
     rw[Gl (by rw[←HX.o.len];omega),←HX.o.len] at hmt
     match e:i-l.length with
     | 0 =>
      rw[e] at hy hmt;simp at hy hmt;subst hy hmt;exact(HL.o.wd hw').ext hEx
     | j + 1 =>
      rw[e] at hy;simp at hy
 ·have h64':¬(L:Int)<64:=by omega
  have HS:=aa (show fQ ls lt=ls by unfold fQ;rw[if_neg (by rw[←HX.o.len,←hL.o];exact h64)]);go_enter Tryz.func47,Tryz.ntmps47;go_upto_region 1 with fail
  rw[←hW0.o];go_wp2_with fail;go_end0
  refine⟨rfl,aa ⟨fun _=>False,fun b hb=>hb.elim,?_,?_,Ex.below D0.o⟩⟩
  ·have hm:=HM.o.later D0.o
   exact⟨fun b hb=>hb.elim (hm.lt b) False.elim,fun b hb=>hb.elim (hm.no b) False.elim⟩
  ·rw[HS.o]
   obtain⟨v1,l1,X1⟩:=LiW.later ⟨_,l,HX.o⟩ D0.o;refine⟨v1,l1,{X1.wd (S':=fun b=>S b∨False) (fun b _ hb=>hb.elim id False.elim) (fun b hb=>.inl (X1.sub b hb)) with cB:=.inl X1.cB,cv:=fun k hk=>.inl (X1.cv k hk),sub:=fun b hb=>hb.elim (fun h=>.inl (X1.sub b h)) False.elim}⟩
end
section
theorem AE (l:List Le) (i:Nat) (hi:i≤l.length):(csL l).take (i*3)=csL (l.take i):=by
 have h:=jX (l.take i) (l.drop i);rw[List.take_append_drop] at h;rw[h];have h2:(csL (l.take i)).length=i*3:=by rw[gO,Gk,Nat.min_eq_left hi]
 rw[←h2];exact List.take_left
theorem AD (l:List Le) (i:Nat) (hi:i≤l.length):(csL l).drop (i*3)=csL (l.drop i):=by
 have h:=jX (l.take i) (l.drop i);rw[List.take_append_drop] at h;rw[h];have h2:(csL (l.take i)).length=i*3:=by rw[gO,Gk,Nat.min_eq_left hi]
 rw[←h2];exact List.drop_left
def kr (cs:List Value) (L i:Nat):List Value:=cs.take (i*3)++(cs.drop ((i+1)*3)).take ((L-(i+1))*3)++cs.drop (i*3+(L-(i+1))*3)
def ks (cs:List Value) (L i:Nat):List Value:=(kr cs L i).take ((L-1)*3)++[.bool false,.slice none 0 0,.bool false]++(kr cs L i).drop ((L-1)*3+3)
section
variable {cs:List Value} {L i cap:Nat}
theorem mH (hs:cs.length=cap*3) (hL:L≤cap) (hi:i<L):(kr cs L i).length=cap*3:=by
 unfold kr;simp only[Ge,Gk,List.length_drop];omega
theorem AF (hs:cs.length=cap*3) (hL:L≤cap) (hi:i<L):(ks cs L i).length=cap*3:=by
 unfold ks;simp only[Ge,Gk,List.length_drop,mH hs hL hi,List.length_cons,List.length_nil];omega
theorem yb {l:List Le} (hs:cs.length=cap*3) (hL:L≤cap) (hi:i<L) (hl:L=l.length) (ht:cs.take (l.length*3)=csL l):(ks cs L i).take ((l.eraseIdx i).length*3)=csL (l.eraseIdx i):=by
 have h1:(l.eraseIdx i).length=L-1:=by rw[List.length_eraseIdx_of_lt (by omega),←hl]
 have h2:((kr cs L i).take ((L-1)*3)).length=(L-1)*3:=by rw[Gk,mH hs hL hi];omega
 rw[h1];unfold ks;rw[List.append_assoc,List.take_append_of_le_length (by omega),Gj (by omega)];unfold kr;have h3:(cs.take (i*3)++(cs.drop ((i+1)*3)).take ((L-(i+1))*3)).length=(L-1)*3:=by
  simp only[Ge,Gk,List.length_drop];omega
 rw[←h3,List.take_left];rw[List.eraseIdx_eq_take_drop_succ,jX,←AE l i (by omega),←AD l (i+1) (by omega),←ht,List.take_take,Nat.min_eq_left (by omega),List.drop_take];congr 2
 omega
theorem rK {u:Value} (h:u∈kr cs L i):u∈cs:=by
 unfold kr at h;simp only[List.mem_append] at h;rcases h with (h|h)|h
 ·exact List.mem_of_mem_take h
 ·exact List.mem_of_mem_drop (List.mem_of_mem_take h)
 ·exact List.mem_of_mem_drop h
theorem CU (hn:∀ u∈cs,iM u=true):∀ u∈ks cs L i,iM u=true:=by
 intro u h;unfold ks at h;simp only[List.mem_append] at h;rcases h with (h|h)|h
 ·exact hn u (rK (List.mem_of_mem_take h))
 ·simp at h
  rcases h with rfl|rfl|rfl<;>rfl
 ·exact hn u (rK (List.mem_of_mem_drop h))
end
theorem tc (w:World) (ty:TypeId) (g o c:Nat) (cur:Array Value) (hg:Bx w g cur 80) (ho:o+3≤cur.size) :
 (Builtin.clear_ #[69] ty #[.slice (some ⟨g,o,none⟩) 1 c]).run Tryz.prog w=.ok (.tuple #[]) (w.setRow g (cur.toList.take o++[Value.bool false,Value.slice none 0 0,Value.bool false]++cur.toList.drop (o+3)).toArray):=by
 obtain⟨i0,hi0,hz0,hz1,hz2⟩:=info_parts Tryz.infoLe;have hv:∀ w,(zeroValue 80).run Tryz.prog w=.ok (.agg #[.bool false,Value.slice none 0 0,Value.bool false]) w:=by
  intro w;simp[zeroValue,typeInfo,hi0,hz0]
 have hzc:(Builtin.zeroCells (Value.cells (.agg #[.bool false,Value.slice none 0 0,Value.bool false])) 1).toList=[Value.bool false,Value.slice none 0 0,Value.bool false]:=by kernel_rfl
 have hst:=run_storeCells_at Tryz.prog g o 80 [Value.bool false,Value.slice none 0 0,Value.bool false] 0 cur w hg (by simpa using ho) (by intro v hv;simp at hv;rcases hv with rfl|rfl|rfl<;>rfl);simp only[Nat.add_zero] at hst;simp[Builtin.clear_,run_underlying Tryz.underlying69,hv,hzc,hst]
theorem jB {ops:Array Oper} {o:Oper} {a:Act} {w:World} {K:Act→World→Prop} {Q:Exit→Act→World→Prop} {E:Prop} (hgd:o.guard=none) (s y:Operand)
 (ho:o.op=Op.call {callee:=Callee.builtin Builtin.append,args:=#[s,y],argTypes:=#[69,69]}) (g i cap m c:Nat) (cur:Array Value) (A:Addr) (news:List Value)
 (hs:a.eval s=.slice (some ⟨g,0,none⟩) i cap) (hy:a.eval y=.slice (some A) m c) (hg:Bx w g cur 80) (hl:news.length=m*3) (hnews:∀ j u,news[j]?=some u→w.cell? (A.add j)=some u) (h1:∀ u∈news,u.oneCell'=true) (hroom:i+m≤cap) (hfit:i*3+m*3≤cur.size)
 (hK:K (a.put o.dst (.slice (some ⟨g,0,none⟩) (i+m) cap)) (w.setRow g (cur.toList.take (i*3)++news++cur.toList.drop (i*3+m*3)).toArray)) :
 if Region.wanted o (yielded ops a.tmps)=true then Oper.wp Tryz.prog o a w K Q else E:=by
 have hw:Region.wanted o (yielded ops a.tmps)=true:=by simp[Region.wanted,hgd]
 rw[if_pos hw];obtain⟨i0,hi0,hz0,hz1,hz2⟩:=info_parts Tryz.infoLe;have hr:=_root_.Go.run_append_room (P:=Tryz.prog) w 69 o.type 80 i0 Tryz.underlying69 hi0 g i cap cur hg A m c news (by rw[hz1];exact hl) hnews h1 hroom (by rw[hz1,hl];exact hfit);rw[hz1,hl] at hr;unfold Oper.wp execOp;simp only[ho,resolve,invoke,builtin,Sem.run_bind,Sem.run_pure,Result.andThen_ok,List.map_toArray,List.map_cons,List.map_nil,hs,hy,hr];exact hK
theorem Bx.setRow {w:World} {g:Nat} {cur:Array Value} {t:TypeId} (h:Bx w g cur t) (cs:Array Value):Bx (w.setRow g cs) g cs t:=setRow_heap w g cur cs t (0,0) h
theorem Ex.setRow (w:World) (g:Nat) (cs:Array Value):Ex (fun b=>b=g) w (w.setRow g cs):=⟨⟨by simp,fun b _ hn=>setRow_other w g b cs hn⟩,rfl,rfl,rfl⟩
theorem tJ (g cap L i:Nat) (l:List Le) (cur:Array Value) (w:World) (hB:Bx w g cur 80) (hL:L=l.length) (hc:L≤cap) (hm:cap≤maxLen) (hs:cur.size=cap*3) (ht:cur.toList.take (l.length*3)=csL l) (hn:∀ u∈cur.toList,iM u=true) (hi:i<L) (hl:L≤64) (j:Nat) (hj:Hid (j=i+1)) :
 Calls Tryz.prog 51 #[.slice (some ⟨g,0,none⟩) L cap,.int .i64 (i:Int),.int .i64 (j:Int)] w fun e w'=>e=.returned (.slice (some ⟨g,0,none⟩) (L-1) cap)∧Hid (cG w' (.slice (some ⟨g,0,none⟩) (L-1) cap) (l.eraseIdx i))∧Hid (Ex (fun b=>b=g) w w'):=by
 have HB:=aa hB;have HT:=aa ht;have HN:=aa hn;have HL:=aa hL;have HS:=aa hs;have hcs:cur.toList.length=cap*3:=by simpa using hs
 have HM:=aa hm;obtain⟨news,hnews⟩:∃ news:List Value,Hid (news=(cur.toList.drop ((i+1)*3)).take ((L-(i+1))*3)):=⟨_,rfl⟩
 have hnl:news.length=(L-(i+1))*3:=by rw[hnews.o,Gk,List.length_drop,hcs];omega
 have HNL:=aa hnl;have N1:=aa (show ∀ u∈news,u.oneCell'=true from fun u hu=>by
  have h1:u∈csL l:=by
   rw[←ht];rw[hnews.o,←hL] at *;have h2:(cur.toList.drop ((i+1)*3)).take ((L-(i+1))*3)=(cur.toList.take (L*3)).drop ((i+1)*3):=by
    rw[List.drop_take];congr 1
    omega
   rw[h2] at hu;exact List.mem_of_mem_drop hu
  exact(nC l u h1).2)
 have N2:=aa (show ∀ j u,news[j]?=some u→w.cell? ⟨g,(i+1)*3+j,none⟩=some u from fun j u hj=>by
  rw[HB.o.cell];rw[hnews.o] at hj;have hjl:=(Gh.1 hj).1;rw[Gk] at hjl;rw[List.getElem?_take_of_lt (by omega),List.getElem?_drop,Array.getElem?_toList] at hj;exact hj)
 obtain⟨W1,hW1⟩:∃ W1:World,Hid (W1=w.drew.setRow g (cur.toList.take (i*3)++news++cur.toList.drop (i*3+(L-(i+1))*3)).toArray):=⟨_,rfl⟩
 have B1:=aa (show Bx W1 g (kr cur.toList L i).toArray 80 by rw[hW1.o,hnews.o];exact Bx.setRow (show Bx w.drew g cur 80 from hB) _);have E1:=aa (show Ex (fun b=>b=g) w W1 by rw[hW1.o];exact(Ex.below (Below.refl _ w).drew).trans (Ex.setRow _ _ _));obtain⟨nn,hnn⟩:∃ nn:Nat,Hid (nn=L-1):=⟨_,rfl⟩
 have hnL:nn<L:=by rw[hnn.o];omega
 have hnc:nn≤cap:=by omega
 have hnc2:¬cap=nn:=by omega
 have hcl:∀ ty c,(Builtin.clear_ #[69] ty #[.slice (some ⟨g,nn*3,none⟩) (L-nn) c]).run Tryz.prog W1=.ok (.tuple #[]) (W1.setRow g (ks cur.toList L i).toArray):=fun ty c=>by
  have h1:=tc W1 ty g ((L-1)*3) c _ B1.o (by simp[mH hcs hc hi];omega);rw[hnn.o,show L-(L-1)=1 by omega];exact h1
 have F2:=aa (show cG (W1.setRow g (ks cur.toList L i).toArray) (.slice (some ⟨g,0,none⟩) (L-1) cap) (l.eraseIdx i) from
  .inr ⟨g,cap,_,by rw[List.length_eraseIdx_of_lt (by omega),←hL],Bx.setRow B1.o _,by rw[List.length_eraseIdx_of_lt (by omega)];omega,hm,by simp[AF hcs hc hi],yb hcs hc hi hL ht,CU hn⟩)
 have F3:=aa (show Ex (fun b=>b=g) w (W1.setRow g (ks cur.toList L i).toArray) from E1.o.trans (Ex.setRow _ _ _));have HF:=aa hs;clear hB ht hn hL hs hcs hm hnl;have hij:i<j:=by rw[hj.o];omega
 have hjL:j≤L:=by rw[hj.o];omega
 have hic:i≤cap:=by omega
 have hjc:j≤cap:=by omega
 have hne:¬i=j:=by omega
 go_enter Tryz.func51,Tryz.ntmps51;by_cases hcap:cap=j
 ·subst hcap
  obtain rfl:L=cap:=by omega
  go_wp2_with fail;go_region_law (first
   |(refine jB rfl (.tmp 22) (.tmp 25) rfl g i L _ _ cur _ news rfl rfl ?zo1 ?zo2 ?zo3 N1.o ?zo4 ?zo5 ?_;(case zo1=>exact HB.o);(case zo2=>rw[HNL.o];have:=hj.o;omega);(case zo3=>(intro t u hu;have h9:=(Gh.1 hu).1;rw[HNL.o] at h9;have:=hj.o;omega));(case zo4=>omega);(case zo5=>rw[HF.o];omega);rw[show(w.drew.setRow g (List.take (i*3) cur.toList++news++List.drop (i*3+0*3) cur.toList).toArray)=W1 by(rw[hW1.o,show(L-(i+1))=0 by have:=hj.o;omega]),show i+0=nn by(have:=hj.o;have:=hnn.o;omega)]))
  go_wp2_with fail;exact bodyPost_ret (v:=.slice (some ⟨g,0,none⟩) nn L) (by simp[results,Tryz.results51,go_sem]) rfl ⟨by rw[hnn.o],F2,F3⟩
 ·go_wp2_with fail
  go_region_law (first
   |(refine jB rfl (.tmp 22) (.tmp 25) rfl g i cap _ _ cur _ news rfl rfl ?zo1 ?zo2 ?zo3 N1.o ?zo4 ?zo5 ?_;(case zo1=>exact HB.o);(case zo2=>rw[HNL.o];have:=hj.o;omega);(case zo3=>(intro t u hu;rw[Addr.add_lit,hj.o];exact N2.o t u hu));(case zo4=>omega);(case zo5=>rw[HF.o];omega);rw[show(w.drew.setRow g (List.take (i*3) cur.toList++news++List.drop (i*3+(L-j)*3) cur.toList).toArray)=W1 by(rw[hW1.o,hj.o]),show i+(L-j)=nn by(have:=hj.o;have:=hnn.o;omega)]))
  go_wp2_with fail;exact bodyPost_ret (v:=.slice (some ⟨g,0,none⟩) nn cap) (by simp[results,Tryz.results51,go_sem]) rfl ⟨by rw[hnn.o],F2,F3⟩
end
structure LiD (C S:Nat→Prop) (w w':World) (B P O:Nat) (ls:List Lt_):Prop where
 mu:Mut S w'
 ln:LiW C S w' B P O ls
 ext:Ex C w w'
theorem LiD.same {C S:Nat→Prop} {w w':World} {B P O:Nat} {ls:List Lt_} (hm:Mut S w) (h:LiW C S w B P O ls) (hb:Gq w w'):LiD C S w w' B P O ls:=⟨hm.later hb,h.later hb,Ex.below hb⟩
theorem mj (C S:Nat→Prop) (B P O:Nat) (w:World) (hX:LiW C S w B P O []) (at_:Int) :
 Calls Tryz.prog 30 #[.pointer (some ⟨B,2,none⟩),.int .i64 at_] w fun e w'=>e=.returned (.tuple #[.agg #[.bool false,.slice none 0 0,.bool false],.bool false])∧Hid (Gq w w'):=by
 obtain⟨v,l,X⟩:=hX;obtain⟨av,cv,hv,hcv⟩:=X.row.len;have hl0:l.length=0:=X.len;rw[hl0] at hv;subst hv;obtain⟨W0,hW0⟩:∃ W0:World,Hid (W0=w.alloc (.cells #[.bool false,.slice none 0 0,.bool false] 80)):=⟨_,rfl⟩
 have D0:=beA hW0;have X0:=bxA hW0;have P0:=aa (show Bx W0 B #[.pointer (some ⟨P,0,none⟩),.pointer (some ⟨O,0,none⟩),.slice av 0 cv] 73 from Bx.later X.bx D0.o (Bx.lt X.bx));clear X hcv hl0;obtain⟨p0,p1,p2⟩:=P0.o.three;have xf:=X0.o.frozen;obtain⟨q0,q1,q2⟩:=X0.o.three;go_enter Tryz.func30,Tryz.ntmps30;go_upto_region 1 with fail
 rw[←hW0.o];go_wp2_with fail;obtain⟨W1,hW1⟩:∃ W1:World,Hid (W1=((W0.setCell ⟨w.heap.size,0,none⟩ (.bool false)).setCell ⟨w.heap.size,1,none⟩ (.slice none 0 0)).setCell ⟨w.heap.size,2,none⟩ (.bool false)):=⟨_,rfl⟩
 rw[←hW1.o];have X1:=aa (show Bx W1 w.heap.size #[.bool false,.slice none 0 0,.bool false] 80 by rw[hW1.o];exact((X0.o.set 0 _).set 1 _).set 2 _);have G1:=aa (show W0.grownBy W1 (some w.heap.size) by rw[hW1.o];exact ak (ak (ak (aq _ _) _ _) _ _) _ _);have F1:=aa (aM D0.o G1.o (Gi _));clear q0 q1 q2;obtain⟨r0,r1,r2⟩:=X1.o.three;exact bodyPost_ret (v:=.tuple #[.agg #[.bool false,.slice none 0 0,.bool false],.bool false]) (by simp[results,Tryz.results30,go_sem,r0,r1,r2]) rfl ⟨rfl,F1⟩
theorem ml (C S:Nat→Prop) (B P O:Nat) (ls:List Lt_) (w:World) (hm:Mut S w) (hX:LiW C S w B P O ls) (at_:Int) (h0:-9223372036854775808≤at_) (h1:at_≤9223372036854775807) (i:Nat) (hi:Mx.ej at_ ls.length=(i:Int)) (lt:Lt_) (hlt:ls[i]?=some lt) :
 Calls Tryz.prog 30 #[.pointer (some ⟨B,2,none⟩),.int .i64 at_] w fun e w'=>∃ x:Le,e=.returned (.tuple #[.agg #[.bool x.to_,.slice x.a x.n x.c,.bool x.g],.bool true])∧Hid (gJ S w' x lt)∧Hid (LiD C S w w' B P O (ls.eraseIdx i)):=by
 obtain⟨v,l,X⟩:=hX;have hil:i<l.length:=by rw[X.len];exact(Gh.1 hlt).1
 obtain⟨x,hx⟩:∃ x,l[i]?=some x:=⟨_,F0 hil⟩
 obtain⟨g,cap,cur,hv,hB,hc,hcm,hs,ht,hn,c0,c1,c2⟩:=X.row.at_ hx;obtain⟨L,hL⟩:∃ L:Nat,Hid (L=l.length):=⟨_,rfl⟩
 have hLs:ls.length=L:=by rw[hL.o,X.len]
 rw[hLs] at hi;have HI:=aa hi;rw[←hL.o] at hv hc hil;have hL64:L≤64:=by rw[hL.o];exact X.lim
 subst hv;have HX:=aa X;have HM:=aa hm;have HXI:=aa hx;have HLT:=aa hlt;obtain⟨W0,hW0⟩:∃ W0:World,Hid (W0=w.alloc (.cells #[.bool false,.slice none 0 0,.bool false] 80)):=⟨_,rfl⟩
 have D0:=beA hW0;have X0:=bxA hW0;have P0:=aa (show Bx W0 B #[.pointer (some ⟨P,0,none⟩),.pointer (some ⟨O,0,none⟩),.slice (some ⟨g,0,none⟩) L cap] 73 from Bx.later X.bx D0.o (Bx.lt X.bx));have B0:=aa (show Bx W0 g cur 80 from Bx.later hB D0.o hB.lt);have y0:=(D0.o.cell (p:=⟨g,i*3,none⟩) hB.lt).trans c0;have y1:=(D0.o.cell (p:=⟨g,i*3+1,none⟩) hB.lt).trans c1;have y2:=(D0.o.cell (p:=⟨g,i*3+2,none⟩) hB.lt).trans c2;have NE:=aa (X.ne g rfl);have HS:=aa (And.intro hs (And.intro ht (And.intro hn hcm)));have hLpos:0<L:=by omega
 have hL0:¬(L:Int)=0:=by omega
 have hLI:(i:Int)<(L:Int):=by omega
 clear X hm hx hlt hi hB hs ht hn c0 c1 c2 hcm hLs;obtain⟨p0,p1,p2⟩:=P0.o.three;go_enter Tryz.func30,Tryz.ntmps30;go_upto_region 1 with fail
 rw[←hW0.o];go_wp2_with fail;refine(kQ at_ L W0 h0 h1 hLpos (by omega)).mono ?_;rintro e w1 ⟨rfl,hw1⟩;rw[hw1.o,HI.o];clear hw1;go_upto_region 5 with fail
 obtain⟨W1,hW1⟩:∃ W1:World,Hid (W1=W0.alloc (.cells #[.bool x.to_,.slice x.a x.n x.c,.bool x.g] 80)):=⟨_,rfl⟩
 obtain⟨h,hh⟩:∃ h:Nat,Hid (h=W0.heap.size):=⟨_,rfl⟩
 rw[←hW1.o,←hh.o];have D1:=beA hW1;have Y1:=aa (show Bx W1 h #[.bool x.to_,.slice x.a x.n x.c,.bool x.g] 80 by rw[hW1.o,hh.o];exact Bx.new W0 _ _);have X1:=aa (show Bx W1 w.heap.size #[.bool false,.slice none 0 0,.bool false] 80 from Bx.later X0.o D1.o X0.o.lt);have P1:=aa (show Bx W1 B #[.pointer (some ⟨P,0,none⟩),.pointer (some ⟨O,0,none⟩),.slice (some ⟨g,0,none⟩) L cap] 73 from Bx.later P0.o D1.o P0.o.lt);have B1:=aa (show Bx W1 g cur 80 from Bx.later B0.o D1.o B0.o.lt);have F1:=aa (show Gq w W1 from D0.o.trans (D1.o.mono D0.o.size));clear p0 p1 p2 y0 y1 y2;obtain⟨p0,p1,p2⟩:=P1.o.three;obtain⟨j,hj⟩:∃ j:Nat,Hid (j=i+1):=⟨_,rfl⟩
 have hij:(i:Int)+1=(j:Int):=by rw[hj.o];omega
 go_wp2_with fail;refine(tJ g cap L i l cur W1 B1.o hL.o hc HS.o.2.2.2 HS.o.1 HS.o.2.1 HS.o.2.2.1 hil hL64 j hj).mono ?_;rintro e w2 ⟨rfl,R2,E2⟩;have hgw:g<w.heap.size:=HX.o.row.lt g rfl;have hgs:¬w.heap.size=g:=by omega
 have hgh:¬h=g:=by have:=D0.o.size;rw[hh.o];omega
 have hBw:B<w.heap.size:=Bx.lt HX.o.bx;have X2:=aa (show Bx w2 w.heap.size #[.bool false,.slice none 0 0,.bool false] 80 from Ex.bx E2.o X1.o hgs);have Y2:=aa (show Bx w2 h #[.bool x.to_,.slice x.a x.n x.c,.bool x.g] 80 from Ex.bx E2.o Y1.o hgh);have P2:=aa (show Bx w2 B #[.pointer (some ⟨P,0,none⟩),.pointer (some ⟨O,0,none⟩),.slice (some ⟨g,0,none⟩) L cap] 73 from Ex.bx E2.o P1.o (fun e=>NE.o e.symm));clear p0 p1 p2 hij;obtain⟨p0,p1,p2⟩:=P2.o.three;have pf:=P2.o.frozen;go_upto_region 6 with fail
 obtain⟨w3,hw3⟩:∃ w3:World,Hid (w3=w2.setCell ⟨B,2,none⟩ (.slice (some ⟨g,0,none⟩) (L-1) cap)):=⟨_,rfl⟩
 rw[←hw3.o];have G3:=aa (show Ex (fun b=>b=B) w2 w3 by rw[hw3.o];exact Ex.one (ak (aq _ _) _ _));have P3:=aa (show Bx w3 B #[.pointer (some ⟨P,0,none⟩),.pointer (some ⟨O,0,none⟩),.slice (some ⟨g,0,none⟩) (L-1) cap] 73 by rw[hw3.o];exact P2.o.set 2 _);have R3:=aa (show cG w3 (.slice (some ⟨g,0,none⟩) (L-1) cap) (l.eraseIdx i) from R2.o.ext G3.o (fun k hk e=>NE.o ((Gg hk).trans e)));have X3:=aa (show Bx w3 w.heap.size #[.bool false,.slice none 0 0,.bool false] 80 from Ex.bx G3.o X2.o (by omega));have Y3:=aa (show Bx w3 h #[.bool x.to_,.slice x.a x.n x.c,.bool x.g] 80 from Ex.bx G3.o Y2.o (by have:=D0.o.size;have:=hh.o;omega));clear p0 p1 p2 pf;obtain⟨p0,p1,p2⟩:=Y3.o.three;obtain⟨q0,q1,q2⟩:=X3.o.three;have qf:=X3.o.frozen;go_wp2_with fail;obtain⟨w4,hw4⟩:∃ w4:World,Hid (w4=((w3.setCell ⟨w.heap.size,0,none⟩ (.bool x.to_)).setCell ⟨w.heap.size,1,none⟩ (.slice x.a x.n x.c)).setCell ⟨w.heap.size,2,none⟩ (.bool x.g)):=⟨_,rfl⟩
 rw[←hw4.o];have X4:=aa (show Bx w4 w.heap.size #[.bool x.to_,.slice x.a x.n x.c,.bool x.g] 80 by rw[hw4.o];exact((X3.o.set 0 _).set 1 _).set 2 _);have G4:=aa (show Ex (fun b=>b=w.heap.size) w3 w4 by rw[hw4.o];exact Ex.one (ak (ak (ak (aq _ _) _ _) _ _) _ _));clear p0 p1 p2 q0 q1 q2 qf;obtain⟨r0,r1,r2⟩:=X4.o.three;refine bodyPost_ret (v:=.tuple #[.agg #[.bool x.to_,.slice x.a x.n x.c,.bool x.g],.bool true]) (by simp[results,Tryz.results30,go_sem,r0,r1,r2]) rfl ⟨x,rfl,?_⟩;have hExt:Ex (fun b=>b=B∨Value.ownBlock (.slice (some ⟨g,0,none⟩) L cap)=some b) w w4:=by
  have e1:Ex (fun b=>b=B∨b=g∨w.heap.size≤b) w w4:=(Ex.below F1.o).trans ((E2.o.mono fun b _ hb=>.inr (.inl hb)).trans ((G3.o.mono fun b _ hb=>.inl hb).trans (G4.o.mono fun b _ hb=>.inr (.inr (by omega)))));refine e1.mono fun b hb hs=>?_
  rcases hs with hs|hs|hs
  ·exact .inl hs
  ·exact .inr (by rw[hs];rfl)
  ·omega
 have hR4:cG w4 (.slice (some ⟨g,0,none⟩) (L-1) cap) (l.eraseIdx i):=R3.o.ext G4.o (fun k hk e=>hgs ((Gg hk).trans e).symm);have hP4:=Ex.bx G4.o P3.o (show ¬B=w.heap.size by omega);have hExS:Ex S w w4:=hExt.mono fun b _ hb=>by
  rcases hb with rfl|hb
  ·exact HX.o.sub _ HX.o.cB
  ·exact HX.o.sub _ (HX.o.cv b hb)
 have hExC:Ex C w w4:=hExt.mono fun b _ hb=>by
  rcases hb with rfl|hb
  ·exact HX.o.cB
  ·exact HX.o.cv b hb
 have hmean:=fun i x lt a b=>(HX.o.fi i x lt a b).ext hExS
 refine⟨aa (hmean i x lt HXI.o HLT.o),aa ⟨?_,⟨_,l.eraseIdx i,hP4,hR4,HX.o.cB,fun k hk=>HX.o.cv k hk,HX.o.sub,?_,?_,?_⟩,hExC⟩⟩
 ·refine HM.o.upd hExt fun b hb o z=>?_
  rcases hb with rfl|hb
  ·rw[hP4.cell o]
   exact dB [.pointer (some ⟨P,0,none⟩),.pointer (some ⟨O,0,none⟩),.slice (some ⟨g,0,none⟩) (L-1) cap] rfl o z
  ·exact hR4.no b hb o z
 ·rw[List.length_eraseIdx,List.length_eraseIdx,HX.o.len]
 ·have:=List.length_eraseIdx_le l i
  rw[←hL.o] at this;omega
 ·intro k y mt hy hmt
  rw[List.getElem?_eraseIdx] at hy hmt;by_cases hk:k<i
  ·rw[if_pos hk] at hy hmt
   exact hmean k y mt hy hmt
  ·rw[if_neg hk] at hy hmt
   exact hmean (k+1) y mt hy hmt
theorem LiB.pre {C S:Nat→Prop} {w v w':World} {B P O:Nat} {ls:List Lt_} {N:Nat→Prop} (h:LiB C S v w' B P O ls N) (hb:Gq w v):LiB C S w w' B P O ls N:=⟨fun b hn=>Gn hb.size (h.new b hn),h.mu,h.ln,(Ex.below hb).trans h.ext⟩
theorem LiD.b {C S:Nat→Prop} {w w':World} {B P O:Nat} {ls:List Lt_} (h:LiD C S w w' B P O ls):LiB C S w w' B P O ls (fun _=>False):=by
 refine⟨fun b hb=>hb.elim,⟨fun b hb=>hb.elim (h.mu.lt b) False.elim,fun b hb=>hb.elim (h.mu.no b) False.elim⟩,?_,h.ext⟩;obtain⟨v1,l1,X1⟩:=h.ln;exact⟨v1,l1,{X1.wd (S':=fun b=>S b∨False) (fun b _ hb=>hb.elim id False.elim) (fun b hb=>.inl (X1.sub b hb)) with cB:=.inl X1.cB,cv:=fun k hk=>.inl (X1.cv k hk),sub:=fun b hb=>hb.elim (fun h=>.inl (X1.sub b h)) False.elim}⟩
def LiQ (C S:Nat→Prop) (w w':World) (B P O:Nat) (ls:List Lt_):Prop:=∃ ls' N,LiB C S w w' B P O ls' N∧∀ x∈ls',x=.dV∨x∈ls
theorem rX (C S:Nat→Prop) (B P O:Nat) (ls:List Lt_) (w:World) (hm:Mut S w) (hX:LiW C S w B P O ls) (at_:Int) (h0:-9223372036854775808≤at_) (h1:at_≤9223372036854775807) :
 Calls Tryz.prog 31 #[.pointer (some ⟨B,2,none⟩),.int .i64 at_] w fun e w'=>e=.returned (.tuple #[])∧Hid (LiQ C S w w' B P O ls):=by
 have HW:=aa hX;have HM:=aa hm;obtain⟨v,l,X⟩:=hX;obtain⟨L,hL⟩:∃ L:Nat,Hid (L=l.length):=⟨_,rfl⟩
 have hL64:L≤64:=by rw[hL.o];exact X.lim
 have HLS:=aa (show ls.length=L by rw[hL.o,X.len]);rcases Nat.eq_zero_or_pos L with hz|hLpos
 ·obtain⟨av,cv,hv,hcv⟩:=X.row.len
  rw[←hL.o,hz] at hv;subst hv;obtain⟨p0,p1,p2⟩:=Bx.three X.bx;clear X hm;go_enter Tryz.func31,Tryz.ntmps31;go_wp2_with fail;go_end0
  exact⟨rfl,aa ⟨ls,_,LiD.b (LiD.same HM.o HW.o (Below.refl _ _)),fun x hx=>.inr hx⟩⟩
 ·obtain⟨i,hi⟩:∃ i:Nat,Hid (Mx.ej at_ L=(i:Int)):=⟨(Mx.ej at_ L).toNat,by have:=(Mx.fY (x:=at_) hLpos).1;show _=_;omega⟩
  have hil:i<L:=by have h2:=(Mx.fY (x:=at_) hLpos).2;rw[hi.o] at h2;omega
  obtain⟨x,hx⟩:∃ x,l[i]?=some x:=⟨_,F0 (by rw[←hL.o];exact hil)⟩
  obtain⟨lt,hlt⟩:∃ lt,ls[i]?=some lt:=⟨_,F0 (by rw[HLS.o];exact hil)⟩
  have HLT:=aa hlt;have HLI:=aa (X.fi i x lt hx hlt);obtain⟨g,cap,cur,hv,hB,hc,hcm,hs,ht,hn,c0,c1,c2⟩:=X.row.at_ hx;rw[←hL.o] at hv hc;subst hv;obtain⟨p0,p1,p2⟩:=Bx.three X.bx;have hLI:(i:Int)<(L:Int):=by omega
  have hLp:(0:Int)<(L:Int):=by omega
  clear X hm hx hlt hs ht hn hcm p0 p1;have DD:=aa (show Gq w w.drew from(Below.refl _ _).drew);go_enter Tryz.func31,Tryz.ntmps31;go_wp2_with fail;go_region_with (first
   |(go_at_call 50;(with_reducible refine(kQ at_ L w.drew h0 h1 hLpos (by omega)).mono ?_);rintro e w1 ⟨rfl,hw1⟩;rw[hw1.o,hi.o];clear hw1)
   |(go_at_call 47;(with_reducible refine(lF C S B P O ls w.drew (HM.o.later DD.o) (HW.o.later DD.o) x lt (HLI.o.ext (Ex.below DD.o))).mono ?_);rintro e w2 ⟨rfl,K2⟩))
  all_goals
   go_wp2_with fail;go_end0
   obtain⟨N,K3⟩:=K2.o;refine⟨rfl,aa ⟨_,N,K3.pre DD.o,fun y hy=>.inr ?_⟩⟩;rcases List.mem_append.1 (qp ls lt y hy) with h|h
   ·exact h
   ·rw[List.mem_singleton.1 h]
    exact Gp HLT.o
theorem Tryz.info5x:(Tryz.prog.info? 5).map (fun i=>(i.zero,i.size,i.bytes))=some (some (.int .u8 0),1,1):=by kernel_rfl
theorem tu (a:Option Addr) (n c:Nat) (l:List Int) (w:World) (hl:Bytes w a n l) (hlt:Av (fun b=>b<w.heap.size) a n) (hn:n≤1000000) (hp:0<n) :
 Calls Tryz.prog 52 #[.slice a n c] w fun e w'=>∃ g c2 cur,e=.returned (.slice (some ⟨g,0,none⟩) n c2)∧Hid (w.heap.size≤g∧Bx w' g cur 5∧n≤c2∧cur.size=c2∧cur.toList.take n=l.map (Value.int .u8))∧Hid (Gq w w'):=by
 have q:∀ (w:World) (a:Option Addr) (n c n' c':Nat),(binOp .eql 78 (.slice a n c) (.slice none n' c')).run Tryz.prog w=.ok (.bool a.isNone) w:=fun w a n c n' c'=>Lib.run_eql_slice_nil w _ _ a n c n' c' Tryz.underlying78
 obtain⟨h1,h2,h3,h4⟩:=hl;obtain⟨b,off,rfl,hc⟩:=h4 hp;have hb:=hlt hp _ rfl;have HC:=aa hc;have HN:=aa h1;clear hc h1 h2 h3 h4 hlt;go_enter Tryz.func52,Tryz.ntmps52;obtain⟨i0,hi,hz0,hz1,hz2⟩:=info_parts Tryz.info5x;go_wp2_with (at_builtin;refine wpList_append_own _ rfl _ _ 78 rfl w.heap.size 5 i0 _ 1 1 Tryz.underlying78 hi hz0 hz1 hz2 rfl (by decide) _ _ _ rfl (World.ownsRow_made w #[] 0 (Gi _) (Nat.zero_le _) (by simp)) ⟨b,off,none⟩ n c (l.map (Value.int .u8)) rfl ?qc1 ?qc2 ?qc3 ?qc4 ?qc5 ?qc6 ?_);case qc1=>simpa using HN.o
 case qc2 =>
  intro j u hj;have hjl:j<l.length:=(Gh.1 hj).1;have h5:=HC.o j (by rw[←HN.o];exact hjl);rw[Ga,hj] at h5;exact h5
 case qc3=>intro u hu;rfl
 case qc4=>rw[aC];omega
 case qc5=>omega
 intro v' w1 hown hgrow hnil;have HG:=aa hgrow;rcases hown.2 with ⟨_,h0⟩|⟨g,cap,cur,rfl,hg1,hg2,hg3,hg4,hg5,hg6⟩
 ·omega
 have HF:=aa (show w.heap.size≤g∧Bx w1 g cur 5∧n≤cap∧cur.size=cap∧cur.toList.take n=l.map (Value.int .u8) from⟨hg1,hg2,by omega,by omega,by simpa using hg6⟩);clear hown hgrow hnil hg1 hg2 hg3 hg4 hg5 hg6;go_wp2
 go_ret;exact⟨g,cap,cur,rfl,HF,aa (((Below.refl _ w).alloc (Gi _) _).grown HG.o (by simp) (by intro k hk;simp[Value.ownBlock] at hk;omega))⟩
theorem uB:∀ (l:List Le) (i:Nat) (x:Le) (a:Option Addr) (n c:Nat) (g:Bool),l[i]?=some x→csL (l.set i ⟨x.to_,a,n,c,g⟩)=((csL l).set (i*3+1) (.slice a n c)).set (i*3+2) (.bool g)
 | [], i, x, a, n, c, g, h => by simp at h
 | y :: l, 0, x, a, n, c, g, h => by
  simp at h;subst h;rfl
 | y :: l, i + 1, x, a, n, c, g, h => by
  have ih:=uB l i x a n c g (by simpa using h);have hy:y.cs.length=3:=rfl;rw[List.set_cons_succ,iZ,iZ,ih,List.set_append_right _ _ (by omega),List.set_append_right _ _ (by omega),hy,show(i+1)*3+1-3=i*3+1 by omega,show(i+1)*3+2-3=i*3+2 by omega]
theorem iJ {t:Bool} {l:List Int} {lt:Lt_} (h:Mx.fi t false l lt):∃ k ns nb bs,Mx.aE l k ns nb bs:=by
 cases lt with
 | dV => exact absurd h.1 (by simp)
 | opn s => exact ⟨_, _, _, _, h.2.2⟩
 | msg s k f => exact ⟨_, _, _, _, h.2.2.1⟩
 | hav s x => exact ⟨_, _, _, _, h.2.2⟩
 | gone s => exact ⟨_, _, _, _, h.2.2⟩
 | ack s k => exact ⟨_, _, _, _, h.2.2⟩
def jV (z:Int):Int:=if z=255 then 0 else z+1
theorem pj {z:Int} (h:0≤z∧z≤255):IntKind.u8.wrap (z+1)=jV z∧0≤jV z∧jV z≤255∧jV z≠z:=by
 unfold jV;split
 ·next h1=>subst h1;exact⟨by decide,by omega,by omega,by omega⟩
 ·next h1=>exact⟨by rw[IntKind.wrap_u8];omega,by omega,by omega,by omega⟩
theorem rY (C S:Nat→Prop) (B P O:Nat) (ls:List Lt_) (w:World) (hm:Mut S w) (hX:LiW C S w B P O ls) (at_ fr:Int) (h0:-9223372036854775808≤at_) (h1:at_≤9223372036854775807) (k0:-9223372036854775808≤fr) (k1:fr≤9223372036854775807) :
 Calls Tryz.prog 32 #[.pointer (some ⟨B,2,none⟩),.int .i64 at_,.int .i64 fr] w fun e w'=>e=.returned (.tuple #[])∧Hid (LiQ C S w w' B P O ls):=by
 have HW:=aa hX;have HM:=aa hm;obtain⟨v,l,X⟩:=hX;obtain⟨L,hL⟩:∃ L:Nat,Hid (L=l.length):=⟨_,rfl⟩
 have hL64:L≤64:=by rw[hL.o];exact X.lim
 have HLS:=aa (show ls.length=L by rw[hL.o,X.len]);have SAME:=aa (show ∀ w':World,Gq w w'→LiQ C S w w' B P O ls from fun w' hb=>⟨ls,_,LiD.b (LiD.same HM.o HW.o hb),fun x hx=>.inr hx⟩);rcases Nat.eq_zero_or_pos L with hz|hLpos
 ·obtain⟨av,cv,hv,hcv⟩:=X.row.len
  rw[←hL.o,hz] at hv;subst hv;obtain⟨p0,p1,p2⟩:=Bx.three X.bx;clear X hm;go_enter Tryz.func32,Tryz.ntmps32;go_wp2_with fail;exact bodyPost_ret (v:=.tuple #[]) (by simp[results,Tryz.results32,go_sem]) rfl ⟨rfl,aa (SAME.o _ (Below.refl _ _))⟩
 ·obtain⟨i,hi⟩:∃ i:Nat,Hid (Mx.ej at_ L=(i:Int)):=⟨(Mx.ej at_ L).toNat,by have:=(Mx.fY (x:=at_) hLpos).1;show _=_;omega⟩
  have hil:i<L:=by have h2:=(Mx.fY (x:=at_) hLpos).2;rw[hi.o] at h2;omega
  obtain⟨x,hx⟩:∃ x,l[i]?=some x:=⟨_,F0 (by rw[←hL.o];exact hil)⟩
  obtain⟨lt,hlt⟩:∃ lt,ls[i]?=some lt:=⟨_,F0 (by rw[HLS.o];exact hil)⟩
  have HLT:=aa hlt;have HXI:=aa hx;have HLI:=aa (X.fi i x lt hx hlt);obtain⟨g,cap,cur,hv,hB,hc,hcm,hs,ht,hn,c0,c1,c2⟩:=X.row.at_ hx;rw[←hL.o] at hv hc;subst hv;have HX:=aa X;obtain⟨p0,p1,p2⟩:=Bx.three X.bx;have hLI:(i:Int)<(L:Int):=by omega
  have hLp:(0:Int)<(L:Int):=by omega
  have hL0:¬(L:Int)=0:=by omega
  have HB:=aa hB;have HR:=aa (And.intro hs (And.intro ht (And.intro hn hcm)));clear X hm hx hlt hs ht hn hcm p0 p1 hB;have DD:=aa (show Gq w w.drew from(Below.refl _ _).drew);obtain⟨xt,xa,xn,xc,xg⟩:=x;simp only at c0 c1 c2;go_enter Tryz.func32,Tryz.ntmps32;go_wp2_with fail;go_region_held3 (fun w'=>w'.cell? ⟨B,2,none⟩=some (.slice (some ⟨g,0,none⟩) L cap))
   (first
     | with_reducible exact p2
     |(simp only[an];with_reducible exact p2))
   (first
   |(go_at_call 50;(with_reducible refine(kQ at_ L w.drew h0 h1 hLpos (by omega)).mono ?_);rintro e w1 ⟨rfl,hw1⟩;rw[hw1.o,hi.o];clear hw1))
  obtain⟨W0,hW0⟩:∃ W0:World,Hid (W0=w.drew):=⟨_,rfl⟩
  rw[←hW0.o];have D0:=aa (show Gq w W0 by rw[hW0.o];exact DD.o);have hgw:g<w.heap.size:=Bx.lt HB.o;have hgW:g<W0.heap.size:=Gf hgw D0.o.size;have y1:=(D0.o.cell (p:=⟨g,i*3+1,none⟩) hgw).trans c1;have y2:=(D0.o.cell (p:=⟨g,i*3+2,none⟩) hgw).trans c2;clear c0 c1 c2 p2;cases xg with
  | true =>
   go_wp2_with fail;exact bodyPost_ret (v:=.tuple #[]) (by simp[results,Tryz.results32,go_sem]) rfl ⟨rfl,aa (SAME.o _ D0.o)⟩
  | false =>
   obtain⟨bs,hby,hxc,hxp,hx2,hmn⟩:=HLI.o;simp only at hby hxc hxp hx2 hmn;have HMN:=aa hmn;have HBY:=aa (hby.ext (Ex.below D0.o));have HBB:=aa hby.1.2.2.1;have HBN:=aa hby.1.1;clear hby hmn;go_wp2_with fail;refine(tu xa xn xc bs W0 HBY.o.1 HBY.o.1.ltA (by omega) hxp).mono ?_;rintro e w1 ⟨g2,k2,cu2,rfl,F1,D1⟩;have B1:=aa (show Bx w1 g cur 80 from Bx.later (Bx.later HB.o D0.o hgw) D1.o hgW);have E1:=aa (show Gq w w1 from D0.o.trans (D1.o.mono D0.o.size));have hg2:w.heap.size≤g2:=Gn D0.o.size F1.o.1;have hgg:¬g=g2:=by omega
   have hgg2:¬g2=g:=by omega
   have bf:=B1.o.frozen;have z1:=(D1.o.cell (p:=⟨g,i*3+1,none⟩) hgW).trans y1;have z2:=(D1.o.cell (p:=⟨g,i*3+2,none⟩) hgW).trans y2;clear y1 y2;go_upto_region 4 with fail
   obtain⟨W2,hW2⟩:∃ W2:World,Hid (W2=(w1.setCell ⟨g,i*3+1,none⟩ (.slice (some ⟨g2,0,none⟩) xn k2)).setCell ⟨g,i*3+2,none⟩ (.bool true)):=⟨_,rfl⟩
   rw[←hW2.o];obtain⟨cu3,hcu3⟩:∃ cu3:Array Value,Hid (cu3=(cur.setIfInBounds (i*3+1) (.slice (some ⟨g2,0,none⟩) xn k2)).setIfInBounds (i*3+2) (.bool true)):=⟨_,rfl⟩
   have B2:=aa (show Bx W2 g cu3 80 by rw[hW2.o,hcu3.o];exact(B1.o.set _ _).set _ _);have G2:=aa (show w1.grownBy W2 (some g) by rw[hW2.o];exact ak (ak (aq _ _) _ _) _ _);have U2:=aa (show Bx W2 g2 cu2 5 from Bx.grow F1.o.2.1 G2.o (fun e=>hgg2 (Gg e)));have hsz:i*3+2<cur.size:=by rw[HR.o.1];omega
   have v1:W2.cell? ⟨g,i*3+1,none⟩=some (.slice (some ⟨g2,0,none⟩) xn k2):=by
    rw[B2.o.cell,hcu3.o,Array.getElem?_setIfInBounds_ne (by omega),Array.getElem?_setIfInBounds_self_of_lt (by omega)]
   obtain⟨r,hr⟩:∃ r:Nat,Hid (Mx.ej fr xn=(r:Int)):=⟨(Mx.ej fr xn).toNat,by have:=(Mx.fY (x:=fr) hxp).1;show _=_;omega⟩
   have hrl:r<xn:=by have h2:=(Mx.fY (x:=fr) hxp).2;rw[hr.o] at h2;omega
   obtain⟨z,hz⟩:∃ z:Int,Hid (z=bs.getD r 0):=⟨_,rfl⟩
   have hrb:r<bs.length:=by rw[HBN.o];exact hrl
   have hzb:0≤z∧z≤255:=by rw[hz.o];exact HBB.o _ (by rw[Ga,F0 hrb];exact List.getElem_mem hrb)
   have v2:W2.cell? ⟨g2,r,none⟩=some (.int .u8 z):=by
    rw[U2.o.cell];have h9:(cu2.toList.take xn)[r]?=some (.int .u8 z):=by
     rw[F1.o.2.2.2.2,List.getElem?_map,F0 hrb,hz.o,Ga,F0 hrb];rfl
    rw[List.getElem?_take_of_lt hrl,Array.getElem?_toList] at h9;exact h9
   have vf:=U2.o.frozen;obtain⟨Z,hZ⟩:∃ Z:Int,Hid (Z=jV z):=⟨_,rfl⟩
   have hwz:IntKind.u8.wrap (z+1)=Z:=by rw[hZ.o];exact(pj hzb).1
   have hrI:(r:Int)<(xn:Int):=by omega
   have HZB:=aa hzb;clear z1 z2 bf hzb;go_region_with (first
    |(go_at_call 50;(with_reducible refine(kQ fr xn W2.drew k0 k1 hxp (by omega)).mono ?_);rintro e w5 ⟨rfl,hw5⟩;rw[hw5.o,hr.o];clear hw5))
   all_goals
    obtain⟨w6,hw6⟩:∃ w6:World,Hid (w6=(W2.setCell ⟨g2,r,none⟩ (.int .u8 Z)).drew):=⟨_,rfl⟩
    rw[←hw6.o];clear v1 v2 vf;go_wp2_with fail;go_end0
    have G6:Ex (fun b=>b=g2) W2 w6:=by rw[hw6.o];exact Ex.one (cy (ak (aq _ _) _ _))
    have U6:Bx w6 g2 (cu2.setIfInBounds r (.int .u8 Z)) 5:=by rw[hw6.o];exact U2.o.set r _
    have hExt:Ex (fun b=>b=B∨Value.ownBlock (.slice (some ⟨g,0,none⟩) L cap)=some b) w w6:=by
     have e1:Ex (fun b=>b=g∨w.heap.size≤b) w w6:=(Ex.below E1.o).trans (((Ex.one G2.o).mono fun b _ hb=>.inl hb).trans (G6.mono fun b _ hb=>.inr (by omega)));refine e1.mono fun b hb hs=>?_
     rcases hs with hs|hs
     ·exact .inr (by rw[hs];rfl)
     ·omega
    have hcs3:cu3.toList=(cur.toList.set (i*3+1) (.slice (some ⟨g2,0,none⟩) xn k2)).set (i*3+2) (.bool true):=by rw[hcu3.o];simp
    have B6:Bx w6 g cu3 80:=Ex.bx G6 B2.o hgg;have hLl:=hL.o;have hR6:cG w6 (.slice (some ⟨g,0,none⟩) L cap) (l.set i ⟨xt,some ⟨g2,0,none⟩,xn,k2,true⟩):=by
     refine .inr ⟨g,cap,cu3,by rw[List.length_set,←hLl],B6,by rw[List.length_set,←hLl];exact hc,HR.o.2.2.2,by rw[hcu3.o];simp[HR.o.1],?_,fun u hu=>?_⟩
     ·rw[List.length_set,hcs3,List.take_set,List.take_set,HR.o.2.1]
      exact(uB l i _ (some ⟨g2,0,none⟩) xn k2 true HXI.o).symm
     ·rw[hcs3] at hu
      rcases List.mem_or_eq_of_mem_set hu with hu|hu
      ·rcases List.mem_or_eq_of_mem_set hu with hu|hu
       ·exact HR.o.2.2.1 u hu
       ·rw[hu];rfl
      ·rw[hu];rfl
    have hP6:Bx w6 B #[.pointer (some ⟨P,0,none⟩),.pointer (some ⟨O,0,none⟩),.slice (some ⟨g,0,none⟩) L cap] 73:=by
     have e1:Ex (fun b=>b=g∨w.heap.size≤b) w w6:=(Ex.below E1.o).trans (((Ex.one G2.o).mono fun b _ hb=>.inl hb).trans (G6.mono fun b _ hb=>.inr (by omega)));have hBw:B<w.heap.size:=Bx.lt HX.o.bx;refine Ex.bx e1 HX.o.bx (fun hs=>?_);rcases hs with hs|hs
     ·exact HX.o.ne g rfl hs.symm
     ·omega
    have hExS:Ex S w w6:=hExt.mono fun b _ hb=>by
     rcases hb with rfl|hb
     ·exact HX.o.sub _ HX.o.cB
     ·exact HX.o.sub _ (HX.o.cv b hb)
    have hExC:Ex C w w6:=hExt.mono fun b _ hb=>by
     rcases hb with rfl|hb
     ·exact HX.o.cB
     ·exact HX.o.cv b hb
    have hm6:Mut S w6:=HM.o.upd hExt fun b hb o z=>by
     rcases hb with rfl|hb
     ·rw[hP6.cell o]
      exact dB [.pointer (some ⟨P,0,none⟩),.pointer (some ⟨O,0,none⟩),.slice (some ⟨g,0,none⟩) L cap] rfl o z
     ·exact hR6.no b hb o z
    have hup:=pj HZB.o;have hhurt:gJ S w6 ⟨xt,some ⟨g2,0,none⟩,xn,k2,true⟩ .dV:=by
     refine⟨bs.set r Z,⟨⟨by rw[List.length_set];exact HBN.o,by show xn≤maxLen;rw[aC];omega,fun y hy=>?_,fun _=>⟨g2,0,rfl,fun j hj=>?_⟩⟩,fun _ q hq hs=>?_⟩,F1.o.2.2.1,hxp,hx2,rfl,?_⟩
     ·rcases List.mem_or_eq_of_mem_set hy with hy|hy
      ·exact HBB.o y hy
      ·rw[hy,hZ.o];exact⟨hup.2.1,hup.2.2.1⟩
     ·have hjb:j<bs.length:=by rw[HBN.o];exact hj
      rw[Nat.zero_add,U6.cell,Ga,List.getElem?_set];have hcz:r<cu2.size:=by rw[F1.o.2.2.2.1];have:=F1.o.2.2.1;omega
      by_cases hjr:r=j
      ·subst hjr
       rw[if_pos rfl,if_pos hrb,Array.getElem?_setIfInBounds_self_of_lt hcz];rfl
      ·rw[if_neg hjr,Array.getElem?_setIfInBounds_ne hjr]
       have h9:(cu2.toList.take xn)[j]?=some (.int .u8 (bs[j]?.getD 0)):=by
        rw[F1.o.2.2.2.2,List.getElem?_map,F0 hjb];rfl
       rw[List.getElem?_take_of_lt hj,Array.getElem?_toList] at h9;exact h9
     ·have h9:=HM.o.lt _ hs
      cases hq
      have:g2<w.heap.size:=h9;omega
     ·obtain⟨k,ns,nb,bs',hF⟩:=iJ HMN.o
      exact hF.dV HBB.o r hrb Z (by rw[hZ.o];exact⟨hup.2.1,hup.2.2.1⟩) (by rw[←hz.o,hZ.o];exact fun e=>hup.2.2.2 e.symm)
    refine⟨rfl,aa ⟨ls.set i .dV,_,LiD.b ⟨hm6,⟨_,_,hP6,hR6,HX.o.cB,HX.o.cv,HX.o.sub,by rw[List.length_set,List.length_set];exact HX.o.len,by rw[List.length_set];exact HX.o.lim,fun j y mt hy hmt=>?_⟩,hExC⟩,fun y hy=>?_⟩⟩
    ·rw[List.getElem?_set] at hy hmt
     by_cases hij:i=j
     ·subst hij
      rw[if_pos rfl,if_pos (by rw[←hLl];exact hil)] at hy;rw[if_pos rfl,if_pos (by rw[HLS.o];exact hil)] at hmt;cases hy
      cases hmt
      exact hhurt
     ·rw[if_neg hij] at hy hmt
      exact(HX.o.fi j y mt hy hmt).ext hExS
    ·rcases List.mem_or_eq_of_mem_set hy with hy|hy
     ·exact .inr hy
     ·exact .inl hy
section
variable {w w0 wr w':World} {g bu:Nat} {a0 a1 a2 a3 a4 a5 a6 a7 a8 a9 a10 qv:Value} {t:TypeId} {frm to_:Int}
theorem As (h:Bx w g #[a0,a1,a2,a3,a4,a5,a6,a7,a8,a9,a10] t) (x:B8):Bx (aR w g 3 x).drew g #[a0,a1,a2,.int .u8 x.z0,.int .u8 x.z1,.int .u8 x.z2,.int .u8 x.z3,.int .u8 x.z4,.int .u8 x.z5,.int .u8 x.z6,.int .u8 x.z7] t:=by
 have h8:=(((((((h.set 3 (.int .u8 x.z0)).set (3+1) (.int .u8 x.z1)).set (3+2) (.int .u8 x.z2)).set (3+3) (.int .u8 x.z3)).set (3+4) (.int .u8 x.z4)).set (3+5) (.int .u8 x.z5)).set (3+6) (.int .u8 x.z6)).set (3+7) (.int .u8 x.z7);have e:(((((((#[a0,a1,a2,a3,a4,a5,a6,a7,a8,a9,a10].setIfInBounds 3 (Value.int .u8 x.z0)).setIfInBounds (3+1) (.int .u8 x.z1)).setIfInBounds (3+2) (.int .u8 x.z2)).setIfInBounds (3+3) (.int .u8 x.z3)).setIfInBounds (3+4) (.int .u8 x.z4)).setIfInBounds (3+5) (.int .u8 x.z5)).setIfInBounds (3+6) (.int .u8 x.z6)).setIfInBounds (3+7) (.int .u8 x.z7)=#[a0,a1,a2,.int .u8 x.z0,.int .u8 x.z1,.int .u8 x.z2,.int .u8 x.z3,.int .u8 x.z4,.int .u8 x.z5,.int .u8 x.z6,.int .u8 x.z7]:=by simp
 rw[e] at h8;have h9:Bx (aR w g 3 x) g #[a0,a1,a2,.int .u8 x.z0,.int .u8 x.z1,.int .u8 x.z2,.int .u8 x.z3,.int .u8 x.z4,.int .u8 x.z5,.int .u8 x.z6,.int .u8 x.z7] t:=h8;exact h9.later (Below.refl _ _).drew h9.lt
theorem oI (h:Bx w g #[a0,a1,a2,a3,a4,a5,a6,a7,a8,a9,a10] t):w.cell? ⟨g,0,none⟩=some a0∧w.cell? ⟨g,1,none⟩=some a1∧w.cell? ⟨g,2,none⟩=some a2∧w.cell? ⟨g,3,none⟩=some a3∧w.cell? ⟨g,4,none⟩=some a4∧w.cell? ⟨g,5,none⟩=some a5∧w.cell? ⟨g,6,none⟩=some a6∧w.cell? ⟨g,7,none⟩=some a7∧w.cell? ⟨g,8,none⟩=some a8∧w.cell? ⟨g,9,none⟩=some a9∧w.cell? ⟨g,10,none⟩=some a10:=⟨h.cell 0,h.cell 1,h.cell 2,h.cell 3,h.cell 4,h.cell 5,h.cell 6,h.cell 7,h.cell 8,h.cell 9,h.cell 10⟩
theorem BL.Dn {a:Option Addr} {n:Nat} {l:List B8} (h:n=0) (hl:l=[]):BL w a n l:=by
 subst h;subst hl;exact BL.none_
structure UpI (w0 wr:World) (bu:Nat) (frm to_:Int) (qv:Value) (done:List Pk):Prop where
 bx:Bx wr bu #[.int .i64 frm,.int .i64 to_,qv] 213
 own:cL wr w0.heap.size qv done
 bel:Gq w0 wr
 rb:Bx wr w0.heap.size #[.int .i64 0,.int .i64 0,.slice none 0 0] 213
theorem UpI.alloc {w0 wr:World} {bu:Nat} {frm to_:Int} {qv:Value} {done:List Pk} (h:UpI w0 wr bu frm to_ qv done) (o:Obj):UpI w0 (wr.alloc o) bu frm to_ qv done:=⟨h.bx.alloc o,World.ownsRow.alloc h.own o,h.bel.alloc h.bel.size o,h.rb.alloc o⟩
theorem UpI.set {done:List Pk} (h:UpI w0 wr bu frm to_ qv done) {x:Nat} {cs:Array Value} (hx:Bx wr x cs 244) (hg:wr.grownBy w' (some x)) (hl:w0.heap.size≤x) (hq:qv.ownBlock≠some x):UpI w0 w' bu frm to_ qv done:=by
 have e1:bu≠x:=by
  rintro rfl;have h1:=h.bx;unfold Bx at h1 hx;rw[hx] at h1;simp at h1
 have e2:w0.heap.size≠x:=by
  rintro rfl;have h1:=h.rb;unfold Bx at h1 hx;rw[hx] at h1;simp at h1
 refine⟨h.bx.grow hg (fun e=>e1 (Gg e)),World.ownsRow.kept h.own hg (.inr hq),aM h.bel hg hl,h.rb.grow hg (fun e=>e2 (Gg e))⟩
theorem UpI.push {v':Value} {done more:List Pk} (h:UpI w0 wr bu frm to_ qv done) (ho:cL w' w0.heap.size v' more) (hg:wr.grownBy w' qv.ownBlock) (hbu:w0.heap.size≤bu) (hne:w0.heap.size≠bu):UpI w0 (w'.setCell ⟨bu,2,none⟩ v') bu frm to_ v' more:=by
 have n1:=aX h.own h.bx (by decide);have n2:=aX h.own h.rb (by decide);have b1:Bx w' bu #[.int .i64 frm,.int .i64 to_,qv] 213:=h.bx.grow hg (fun e=>n1 e.symm);have b2:Bx w' w0.heap.size _ 213:=h.rb.grow hg (fun e=>n2 e.symm);have n3:=aX ho b1 (by decide);refine⟨b1.set 2 v',az ho _ _ n3,(h.bel.grown hg h.bel.size (fun k hk=>(World.ownsRow.lt h.own k hk).1)).setCell (p:=⟨bu,2,none⟩) hbu _,b2.other _ _ hne⟩
theorem uo (a:Option Addr) (nn c:Nat) (frm to_:Int) (Xs:List Nat) (ba:Option Addr) (bn bc:Nat) (bl:List B8) (qs:List Pk) (w:World) (hi:ay w a nn (frm::to_::Xs.map (fun x:Nat=>(x:Int)))) (hc:nn≤c) (hb:BL w ba bn bl) (hbc:bn≤bc) (hq:Mx.fV (Xs.map (fun x:Nat=>(x:Int))) bl=some qs) (hX:∀ x∈Xs,x<4096) (hn:nn≤1000) (hbn:bn≤1000) :
 Calls Tryz.prog 150 #[.slice a nn c,.slice ba bn bc] w fun e w'=>∃ qa qn qc,e=.returned (.tuple #[.agg #[.int .i64 frm,.int .i64 to_,.slice qa qn qc],.nilIface])∧Hid (cL w' w.heap.size (.slice qa qn qc) qs)∧Hid (Gq w w'):=by
 obtain⟨M,hM⟩:∃ M:Nat,M=Xs.length:=⟨_,rfl⟩
 have hnl:nn=M+2:=by have:=hi.1;simp at this;omega
 subst hnl;have HXL:=aa hM.symm;clear hM;obtain⟨b,off,ha,_⟩:=hi.2.2 (by omega);subst ha;obtain⟨hT,y0,y1,hbw,_⟩:=hi.FI;have HT:=aa hT;have HB:=aa hb;have HQ:=aa hq;have HX:=aa hX;have hc2:2≤c:=by omega
 obtain⟨W0,hW0⟩:∃ W0:World,Hid (W0=w.alloc (.cells #[.int .i64 0,.int .i64 0,.slice none 0 0] 213)):=⟨_,rfl⟩
 have R0:=bxA hW0;have D0:=beA hW0;have hS0:=aa (show W0.heap.size=w.heap.size+1 by rw[hW0.o];simp);have z0:=(D0.o.cell (p:=⟨b,off,none⟩) hbw).trans y0;have z1:=(D0.o.cell (p:=⟨b,off+1,none⟩) hbw).trans y1;clear hi hT hb hq hX y0 y1;have hd:decide ((M:Int)+2<2)=false:=by simp;omega
 have hd2:decide (M+2<2)=false:=by simp
 obtain⟨W1,hW1⟩:∃ W1:World,Hid (W1=(W0.alloc (.cells #[.int .i64 frm,.int .i64 to_,.slice none 0 0] 213)).drew):=⟨_,rfl⟩
 have D1:=aa (show Gq W0 W1 by rw[hW1.o];exact(af _ _).drew);obtain⟨bu,hbu⟩:∃ bu:Nat,Hid (bu=W0.heap.size):=⟨_,rfl⟩
 have X1:=aa (show Bx W1 bu #[.int .i64 frm,.int .i64 to_,.slice none 0 0] 213 by rw[hW1.o,hbu.o];exact Bx.dj W0 _ _);go_enter Tryz.func150,Tryz.ntmps150;go_upto_region 3 with fail
 rw[←hW0.o];have hk0:(0:Int)<(M:Int)+2:=by omega
 have hk1:(1:Int)<(M:Int)+2:=by omega
 have hk2:0<M+2:=by omega
 have hk3:1<M+2:=by omega
 have hbW:b<W0.heap.size:=by have h9:=hS0.o;omega
 go_region_held3 (fun w'=>w'.cell? ⟨b,off,none⟩=some (.int .i64 frm)∧w'.cell? ⟨b,off+1,none⟩=some (.int .i64 to_))
  (first
    | with_reducible exact ⟨z0, z1⟩
    |(simp only[an];with_reducible exact⟨z0,z1⟩)
    |(simp only[an,ao hbW];with_reducible exact⟨z0,z1⟩))
  (fail)
 rw[←hW1.o,←hbu.o];have hbuw:w.heap.size<bu:=by have h1:=hbu.o;have h2:=R0.o.lt;omega
 have hne1:¬bu=w.heap.size:=by omega
 have hne2:¬w.heap.size=bu:=by omega
 have I1:=aa (show UpI w W1 bu frm to_ (.slice none 0 0) [] from⟨X1.o,World.ownsRow_nil _ _ _ _,D0.o.trans (D1.o.mono D0.o.size),R0.o.later D1.o R0.o.lt⟩);have R1:=aa I1.o.rb;clear z0 z1 hk0 hk1 hk2 hk3;by_cases hX0:M=0
 ·subst hX0
  have hqs:qs=[]:=by
   have h9:=HQ.o;rw[List.eq_nil_of_length_eq_zero HXL.o] at h9;simp[Mx.fV] at h9;exact h9
  obtain⟨r0,r1,r2⟩:=R1.o.three;have rz:=R1.o.frozen;obtain⟨u0,u1,u2⟩:=X1.o.three;have HQS:=aa hqs;clear hqs;by_cases hcc:c=2
  ·subst hcc
   go_upto_region 5 with fail
   refine wp_loop_once ?_;go_wp2_with fail;have XF:=aa (R1.o.aH (.int .i64 frm) (.int .i64 to_) (.slice none 0 0));obtain⟨t0,t1,t2⟩:=XF.o.three;exact bodyPost_ret (v:=.tuple #[.agg #[.int .i64 frm,.int .i64 to_,.slice none 0 0],.nilIface]) (by simp[results,Tryz.results150,go_sem,t0,t1,t2]) rfl ⟨none,0,0,rfl,aa (by rw[HQS.o];exact World.ownsRow_nil _ _ _ _),aa (aF I1.o.bel (Gi _) _ _ _)⟩
  ·have hci:¬(c:Int)=2:=by omega
   go_upto_region 5 with fail
   refine wp_loop_once ?_;go_wp2_with fail;have XF:=aa (R1.o.aH (.int .i64 frm) (.int .i64 to_) (.slice none 0 0));obtain⟨t0,t1,t2⟩:=XF.o.three;exact bodyPost_ret (v:=.tuple #[.agg #[.int .i64 frm,.int .i64 to_,.slice none 0 0],.nilIface]) (by simp[results,Tryz.results150,go_sem,t0,t1,t2]) rfl ⟨none,0,0,rfl,aa (by rw[HQS.o];exact World.ownsRow_nil _ _ _ _),aa (aF I1.o.bel (Gi _) _ _ _)⟩
 ·have hcc:¬c=2:=by omega
  have hci:¬(c:Int)=2:=by omega
  go_upto_region 5 with fail
  go_loopw [1,25] (fun v t wr=>∃ (k:Nat) (da:Option Addr) (dn dc:Nat) (qv:Value) (done:List Pk) (bs:List B8) (qs':List Pk),t=.int .i64 (k:Int)∧v=.slice da dn dc∧k≤M∧dn≤dc∧dn≤1000∧Hid (UpI w wr bu frm to_ qv done)∧Hid (BL w da dn bs)∧Hid (qs=done++qs'∧Mx.fV ((Xs.drop k).map (fun x:Nat=>(x:Int))) bs=some qs'∧done.length=k)) (fun _ t _=>M-(intOf t).toNat)
  case atStart=>exact⟨0,ba,bn,bc,_,[],bl,qs,rfl,rfl,Nat.zero_le _,hbc,hbn,I1,HB,⟨rfl,HQ.o,rfl⟩⟩
  case round =>
   obtain⟨k,da,dn,dc,qv,done,bs,qs',rfl,rfl,hk,hdc,hdn,hI,hBL,hQ⟩:=hrel;by_cases hlt:k<M
   ·have hlti:(k:Int)<(M:Int):=by omega
    obtain⟨X,hX⟩:∃ X:Nat,Hid (Xs[k]?=some X):=⟨_,F0 (by rw[HXL.o];exact hlt)⟩
    have hXc:wr.cell? ⟨b,off+2+k,none⟩=some (.int .i64 (X:Int)):=(hI.o.bel.cell (p:=⟨b,off+2+k,none⟩) hbw).trans (by
     obtain⟨b',off',ha',_,hcc'⟩:=HT.o.2.2 (by omega);simp only[Option.some.injEq,Addr.mk.injEq,and_true] at ha';obtain⟨rfl,rfl⟩:=ha';have h9:=hcc' k (by omega);rw[Ga,List.getElem?_map,hX.o] at h9;exact h9)
    have HS:=aa (show Xs.drop k=X::Xs.drop (k+1) from by
     have h9:=hX.o;obtain⟨h10,h11⟩:=Gh.1 h9;rw[List.drop_eq_getElem_cons h10,h11])
    obtain⟨W4,hW4⟩:∃ W4:World,Hid (W4=wr.alloc (.cells #[.int .i64 ((X:Int)/32/4),.int .i64 ((X:Int)/32%4),.int .i64 ((X:Int)%32),.int .u8 0,.int .u8 0,.int .u8 0,.int .u8 0,.int .u8 0,.int .u8 0,.int .u8 0,.int .u8 0] 244)):=⟨_,rfl⟩
    have X4:=bxA hW4;have I4:=aa (show UpI w W4 bu frm to_ qv done by rw[hW4.o];exact hI.o.alloc _);have hwx:w.heap.size≤wr.heap.size:=hI.o.bel.size;have HQN:=aa (show qv.ownBlock≠some wr.heap.size from fun e=>by have h9:=(World.ownsRow.lt hI.o.own _ e).2;omega);have hXl:X<4096:=HX.o X (Gp hX.o);obtain⟨hq1,hq2,hq3⟩:=hQ.o;rw[HS.o,List.map_cons] at hq2;have HD:=aa (Mx.xZ hq2);have HQ1:=aa hq1;have HQ3:=aa hq3;clear hq1 hq2 hq3;go_upto_region 8 with fail
    rw[←hW4.o];clear hXc;rcases HD.o with ⟨h3,b1,bs1,qs1,hbs,hqs,hdd⟩|⟨h3,qs1,hqs,hdd⟩
    ·have hd3:((X:Int)/32%4==3)=true:=by simpa using h3
     have HDD:=aa hdd;have HQS:=aa hqs;have HB0:=aa hBL.o;have hdp:0<dn:=by have h9:=hBL.o.1;rw[hbs] at h9;simp at h9;omega
     obtain⟨bb,bo,x0,hda,hbbw,hx0,c0,c1,c2,c3,c4,c5,c6,c7⟩:=hBL.o.at_ 0 hdp;subst hda;have hxe:x0=b1:=by rw[hbs] at hx0;simp at hx0;exact hx0.symm
     subst hxe;have HBT:=aa (show BL w (some ⟨bb,bo+8,none⟩) (dn-1) bs1 by rw[hbs] at HB0;exact HB0.o.FH);have HB1:=aa (show dn=1→bs1=[] from fun e=>by have h9:=HBT.o.1;rw[e] at h9;exact List.eq_nil_of_length_eq_zero h9);have hbb4:bb<W4.heap.size:=Gf hbbw I4.o.bel.size;simp only[Nat.zero_mul,Nat.add_zero] at c0 c1 c2 c3 c4 c5 c6 c7;have e0:=(I4.o.bel.cell (p:=⟨bb,bo,none⟩) hbbw).trans c0;have e1:=(I4.o.bel.cell (p:=⟨bb,bo+1,none⟩) hbbw).trans c1;have e2:=(I4.o.bel.cell (p:=⟨bb,bo+2,none⟩) hbbw).trans c2;have e3:=(I4.o.bel.cell (p:=⟨bb,bo+3,none⟩) hbbw).trans c3;have e4:=(I4.o.bel.cell (p:=⟨bb,bo+4,none⟩) hbbw).trans c4;have e5:=(I4.o.bel.cell (p:=⟨bb,bo+5,none⟩) hbbw).trans c5;have e6:=(I4.o.bel.cell (p:=⟨bb,bo+6,none⟩) hbbw).trans c6;have e7:=(I4.o.bel.cell (p:=⟨bb,bo+7,none⟩) hbbw).trans c7;clear h3 hdd hqs hbs hx0 c0 c1 c2 c3 c4 c5 c6 c7;have hz1:((dn:Int)==0)=false:=by simp;omega
     have hz2:(dn==0)=false:=by simp;omega
     have hz3:(0:Int)<(dn:Int):=by omega
     have hz4:(1:Int)≤(dn:Int):=by omega
     obtain⟨p0,p1,p2,p3,p4,p5,p6,p7,p8,p9,p10⟩:=oI X4.o;have pz:=X4.o.frozen;obtain⟨W5,hW5⟩:∃ W5:World,Hid (W5=(aR W4 wr.heap.size 3 x0).drew):=⟨_,rfl⟩
     have X5:=aa (show Bx W5 wr.heap.size #[.int .i64 ((X:Int)/32/4),.int .i64 ((X:Int)/32%4),.int .i64 ((X:Int)%32),.int .u8 x0.z0,.int .u8 x0.z1,.int .u8 x0.z2,.int .u8 x0.z3,.int .u8 x0.z4,.int .u8 x0.z5,.int .u8 x0.z6,.int .u8 x0.z7] 244 by
      rw[hW5.o];exact As X4.o x0)
     have I5:=aa (show UpI w W5 bu frm to_ qv done by
      rw[hW5.o];exact I4.o.set X4.o (cy (lA (aq _ _) 3 x0)) hwx HQN.o)
     have hbx:¬wr.heap.size=bb:=by have h9:=hI.o.bel.size;omega
     unfold aR at hW5;simp only[Nat.reduceAdd] at hW5;by_cases hd1:dc=1
     ·subst hd1
      go_upto_region 11 with fail
      clear p0 p1 p2;go_region
      all_goals
       rw[←hW5.o];go_upto_region 12 with fail
       obtain⟨p0,p1,p2,p3,p4,p5,p6,p7,p8,p9,p10⟩:=oI X5.o;have u2:W5.cell? ⟨bu,2,none⟩=some qv:=I5.o.bx.cell 2;go_wp2_with (first
        |(at_builtin;refine eV rfl _ _ rfl w.heap.size done I5.o.own ⟨((X:Int)/32/4),((X:Int)/32%4),((X:Int)%32),x0⟩ rfl (by have h9:=HQ3.o;omega) I5.o.bel.size ?_)
        | go_in)
       intro ad c2 w5 hown hgr;have I6:=aa (I5.o.push hown hgr (by omega) (by omega));have b5:=(I5.o.bx.grow hgr (fun e=>(aX I5.o.own I5.o.bx (by decide)) e.symm))
       have u3:w5.cell? ⟨bu,2,none⟩=some qv:=b5.cell 2;have uz:=b5.frozen;clear hown hgr b5 u2 p0 p1 p2 p3 p4 p5 p6 p7 p8 p9 p10;go_wp2_with fail;go_roundw
       case rel=>exact⟨k+1,some ⟨bb,bo,none⟩,0,0,_,_,bs1,qs1,by go_num,rfl,by omega,by omega,by omega,I6,(aa (BL.Dn (by omega) (HB1.o (by omega)))),⟨by rw[HQ1.o,HQS.o,List.append_assoc];rfl,HDD.o,by rw[Ge,HQ3.o];rfl⟩⟩
       case measure=>simp[intOf];omega
     ·have hdi:¬(dc:Int)=1:=by omega
      go_upto_region 11 with fail
      clear p0 p1 p2;go_region
      all_goals
       rw[←hW5.o];go_upto_region 12 with fail
       obtain⟨p0,p1,p2,p3,p4,p5,p6,p7,p8,p9,p10⟩:=oI X5.o;have u2:W5.cell? ⟨bu,2,none⟩=some qv:=I5.o.bx.cell 2;go_wp2_with (first
        |(at_builtin;refine eV rfl _ _ rfl w.heap.size done I5.o.own ⟨((X:Int)/32/4),((X:Int)/32%4),((X:Int)%32),x0⟩ rfl (by have h9:=HQ3.o;omega) I5.o.bel.size ?_)
        | go_in)
       intro ad c2 w5 hown hgr;have I6:=aa (I5.o.push hown hgr (by omega) (by omega));have b5:=(I5.o.bx.grow hgr (fun e=>(aX I5.o.own I5.o.bx (by decide)) e.symm))
       have u3:w5.cell? ⟨bu,2,none⟩=some qv:=b5.cell 2;have uz:=b5.frozen;clear hown hgr b5 u2 p0 p1 p2 p3 p4 p5 p6 p7 p8 p9 p10;go_wp2_with fail;go_roundw
       case rel=>exact⟨k+1,some ⟨bb,bo+8,none⟩,(dn-1),(dc-1),_,_,bs1,qs1,by go_num,rfl,by omega,by omega,by omega,I6,HBT.o,⟨by rw[HQ1.o,HQS.o,List.append_assoc];rfl,HDD.o,by rw[Ge,HQ3.o];rfl⟩⟩
       case measure=>simp[intOf];omega
    ·have hd3:((X:Int)/32%4==3)=false:=by simpa using h3
     have HDD:=aa hdd;have HQS:=aa hqs;clear h3 hdd hqs;have p1:W4.cell? ⟨wr.heap.size,1,none⟩=some (.int .i64 ((X:Int)/32%4)):=X4.o.cell 1;go_upto_region 12 with fail
     clear p1;obtain⟨p0,p1,p2,p3,p4,p5,p6,p7,p8,p9,p10⟩:=oI X4.o;have u2:W4.cell? ⟨bu,2,none⟩=some qv:=I4.o.bx.cell 2;go_wp2_with (first
      |(at_builtin;refine eV rfl _ _ rfl w.heap.size done I4.o.own ⟨((X:Int)/32/4),((X:Int)/32%4),((X:Int)%32),zB⟩ rfl (by have h9:=HQ3.o;omega) I4.o.bel.size ?_)
      | go_in)
     intro ad c2 w5 hown hgr;have I6:=aa (I4.o.push hown hgr (by omega) (by omega));have b5:=(I4.o.bx.grow hgr (fun e=>(aX I4.o.own I4.o.bx (by decide)) e.symm))
     have u3:w5.cell? ⟨bu,2,none⟩=some qv:=b5.cell 2;have uz:=b5.frozen;clear hown hgr b5 u2 p0 p1 p2 p3 p4 p5 p6 p7 p8 p9 p10;go_wp2_with fail;go_roundw
     case rel=>exact⟨k+1,da,dn,dc,_,_,bs,qs1,by go_num,rfl,by omega,by omega,by omega,I6,hBL,⟨by rw[HQ1.o,HQS.o,List.append_assoc];rfl,HDD.o,by rw[Ge,HQ3.o];rfl⟩⟩
     case measure=>simp[intOf];omega
   ·obtain rfl:k=M:=by omega
    have hqe:qs'=[]:=by
     obtain⟨_,h9,_⟩:=hQ.o;rw[List.drop_of_length_le (by rw[HXL.o];exact Gi _)] at h9;simp[Mx.fV] at h9;exact h9
    have HQE:=aa (show qs=done by rw[hQ.o.1,hqe,List.append_nil]);obtain⟨ra,rc,hrv,_⟩:=aA hI.o.own;subst hrv;obtain⟨u0,u1,u2⟩:=hI.o.bx.three;obtain⟨r0,r1,r2⟩:=hI.o.rb.three;have rz:=hI.o.rb.frozen;clear hqe;go_wp2_with fail;have XF:=aa (hI.o.rb.aH (.int .i64 frm) (.int .i64 to_) (.slice ra done.length rc));have n2:=aX hI.o.own hI.o.rb (by decide);have OF:=aa (show cL (ca wr w.heap.size (.int .i64 frm) (.int .i64 to_) (.slice ra done.length rc)) w.heap.size (.slice ra done.length rc) done from az (az (az hI.o.own _ _ n2) _ _ n2) _ _ n2);obtain⟨t0,t1,t2⟩:=XF.o.three;exact bodyPost_ret (v:=.tuple #[.agg #[.int .i64 frm,.int .i64 to_,.slice ra done.length rc],.nilIface]) (by simp[results,Tryz.results150,go_sem,t0,t1,t2]) rfl ⟨ra,done.length,rc,rfl,aa (by rw[HQE.o];exact OF.o),aa (aF hI.o.bel (Gi _) _ _ _)⟩
end
end Go.Proofs.YtbicgjafjjihdaaGreatDoor
