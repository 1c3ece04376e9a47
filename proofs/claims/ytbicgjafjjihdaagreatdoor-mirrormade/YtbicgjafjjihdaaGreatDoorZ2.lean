/- Part. -/
import Derived.Lib.IfaceEq
import Derived.Test.YtbicgjafjjihdaaGreatDoorZ1
set_option maxHeartbeats 16000000
set_option maxRecDepth 100000
namespace Go.Proofs.YtbicgjafjjihdaaGreatDoor
section
open Go.RowKit
theorem aG:bt 0=.nilIface:=rfl
theorem aZ {n:Int} (h:n≠0):bt n=.iface 28 (.int .i64 n):=by unfold bt;rw[if_neg h]
theorem ER (m n:Int) (w:World) :
 Calls Tryz.prog 8 #[bt m,.int .i64 n] w fun e w'=>e=.returned (.bool (m==n))∧w'=w:=by
 have he:∀ (a b:Int) (W:World),(binOp .eql 25 (.iface 28 (.int .i64 a)) (.iface 28 (.int .i64 b))).run Tryz.prog W=.ok (.bool (a==b)) W :=
  fun a b W=>Lib.run_eql_iface_int W a b Tryz.underlying25 (by kernel_rfl) Tryz.underlying28
 by_cases hm:m=0
 ·subst hm
  rw[aG];go_enter Tryz.func8,Tryz.ntmps8;go_wp2
  go_ret;refine⟨?_,rfl⟩;show Ending.returned (.bool _)=_
  congr 2
  rw[Bool.eq_iff_iff];simp only[beq_iff_eq];exact eq_comm
 ·rw[aZ hm]
  by_cases hn:n=0
  ·subst hn
   have hmn:(m==0)=false:=by simpa using hm
   go_enter Tryz.func8,Tryz.ntmps8;go_wp2
   go_ret;exact⟨by rw[hmn];rfl,rfl⟩
  ·have hn0:(n==0)=false:=by simpa using hn
   have hn1:(n != 0)=true:=by simpa using hn
   go_enter Tryz.func8,Tryz.ntmps8;go_wp2
   go_ret;exact⟨rfl,rfl⟩
end
section
open Go.RowKit
variable {w:World}
namespace Mx
def cq:Nat→Nat→List Int
 | 0, x => [(x : Int)]
 | f + 1, x => if x < 128 then [(x : Int)] else ((x % 128 + 128 : Nat) : Int) :: cq f (x / 128)
def cj (x:Nat):List Int:=cq 9 x
theorem jH (f x:Nat) (h:x<128):cq f x=[(x:Int)]:=by
 cases f with
 | zero => rfl
 | succ f => rw [cq, if_pos h]
theorem je (f x:Nat) (h:128≤x):cq (f+1) x=((x%128+128:Nat):Int)::cq f (x/128):=by
 rw[cq,if_neg (by omega)]
theorem tG (f x:Nat):(cq f x).length≤f+1:=by
 induction f generalizing x with
 | zero => simp [cq]
 | succ f ih =>
  rw[cq];split
  ·simp
  ·simp[ih]
theorem rQ (f x:Nat) (h:x<128 ^ (f+1)):∀ c∈cq f x,0≤c∧c≤255:=by
 induction f generalizing x with
 | zero => intro c hc; simp [cq] at hc; subst hc; simp at h; omega
 | succ f ih =>
  intro c hc;rw[cq] at hc;split at hc
  ·simp at hc;subst hc;omega
  ·rcases List.mem_cons.1 hc with rfl|hc
   ·omega
   ·exact ih (x/128) (by rw[Nat.pow_succ] at h;exact Nat.div_lt_of_lt_mul (by omega)) c hc
end Mx
def Own (w:World) (base:Nat) (v:Value) (l:List Int):Prop:=w.ownsRow base 5 1 v l.length (l.map (Value.int .u8))
theorem Tryz.info5:(Tryz.prog.info? 5).map (fun i=>(i.zero,i.size,i.bytes))=some (some (.int .u8 0),1,1):=by kernel_rfl
theorem Own.alloc {w:World} {base:Nat} {v:Value} {l:List Int} (h:Own w base v l) (o:Obj):Own (w.alloc o) base v l:=World.ownsRow.alloc h o
theorem dY {ops:Array Oper} {rest:List Oper} {o:Oper} {a:Act} {Q:Exit→Act→World→Prop} (hgd:o.guard=none) (s x:Operand)
 (ho:o.op=.call {callee:=.builtin .append,args:=#[s,x],argTypes:=#[78,78]}) (base:Nat) (l:List Int) (hown:Own w base (a.eval s) l)
 (ad:Addr) (m c:Nat) (news:List Int) (hx:a.eval x=.slice (some ad) m c) (hl:news.length=m) (hnews:∀ j u,(news.map (Value.int .u8))[j]?=some u→w.cell? (ad.add j)=some u)
 (h63:l.length+m≤1000000) (hbase:base≤w.heap.size)
 (h:∀ v' w',Own w' base v' (l++news)→Below base w w'→wpList Tryz.prog ops Q rest (a.put o.dst v') w'):wpList Tryz.prog ops Q (o::rest) a w:=by
 obtain⟨i0,hi,hz0,hz1,hz2⟩:=info_parts Tryz.info5;refine wpList_append_own w hgd s x 78 ho base 5 i0 (.int .u8 0) 1 1 Tryz.underlying78 hi hz0 hz1 hz2 rfl (by decide) (a.eval s) l.length (l.map (Value.int .u8)) rfl hown ad m c (news.map (Value.int .u8)) hx (by simp[hl]) hnews ?_ (by unfold maxLen;omega) (by omega) hbase ?_
 ·intro u hu
  obtain⟨z,_,rfl⟩:=List.mem_map.1 hu;rfl
 ·intro v' w' hown' hg _
  refine h v' w' ?_ ?_
  ·unfold Own
   rw[Ge,List.map_append,hl];exact hown'
  ·exact(Below.refl base w).grown hg hbase (fun k hk=>(World.ownsRow.lt hown k hk).1)
theorem zm {base:Nat} {v:Value} {l:List Int} (h:Own w base v l) (hn:l≠[]):∃ g cap,v=.slice (some ⟨g,0,none⟩) l.length cap∧base≤g∧g<w.heap.size:=by
 rcases h.2 with ⟨_,hz⟩|⟨g,cap,cur,hv,hb,hh,_⟩
 ·exact absurd (List.eq_nil_of_length_eq_zero hz) hn
 ·exact⟨g,cap,hv,hb,(Array.getElem?_eq_some_iff.1 hh).1⟩
theorem xM (w:World) (news:List Int) (arr:Array Value) (h:arr=(news.map (Value.int .u8)).toArray) :
 ∀ j u,(news.map (Value.int .u8))[j]?=some u→(w.alloc (.cells arr 5)).cell? ((⟨w.heap.size,0,none⟩:Addr).add j)=some u:=by
 intro j u hj;subst h;have hadd:(⟨w.heap.size,0,none⟩:Addr).add j=⟨w.heap.size,j,none⟩:=by unfold Addr.add;split<;>simp_all
 rw[hadd,World.cell?_alloc_new];simpa using hj
theorem mD (base:Nat) (v:Value) (l:List Int) (x:Nat) (w:World) (hown:Own w base v l) (hb:base≤w.heap.size) (hlen:l.length≤10000) (hx:(x:Int)≤2147483647) :
 Calls Tryz.prog 133 #[v,.int .i64 x] w fun e w'=>∃ v',e=.returned v'∧Own w' base v' (l++Mx.cj x)∧Below base w w':=by
 have HO:=aa hown;clear hown;go_enter Tryz.func133,Tryz.ntmps133;go_wp2
 go_loopw [0,1] (fun v y wr=>∃ (f Y:Nat) (pre:List Int),f≤9∧pre.length+f=9∧Hid (Y<128 ^ (f+1))∧(Y:Int)≤2147483647∧y=.int .i64 Y∧Hid (pre++Mx.cq f Y=Mx.cj x)∧Hid (Own wr base v (l++pre))∧Below base w wr)
  (fun _ y _=>(intOf y).toNat)
 case atStart=>exact⟨9,x,[],by omega,by simp,by unfold Hid;omega,hx,rfl,rfl,by unfold Hid;rw[List.append_nil];exact HO.o,Below.refl _ _⟩
 case round =>
  obtain⟨f,Y,pre,hf,hpf,hY,hY2,rfl,hG,hO,hbel⟩:=hrel;have hsz:=hbel.size;by_cases hlt:(Y:Int)<128
  ·have HG:=aa (show l++pre++[(Y:Int)]=l++Mx.cj x by rw[←hG.o,Mx.jH f Y (by omega),List.append_assoc])
   go_wp2_with (at_builtin;refine dY rfl _ _ rfl base (l++pre) (hO.o.alloc _) ⟨wr.heap.size,0,none⟩ 1 1 [(Y:Int)] rfl rfl ?c1 ?c2 ?c3 ?_);case c1=>exact xM _ _ _ rfl
   case c2=>rw[Ge];omega
   case c3=>simp;omega
   intro v' w' hown' hbel';go_wp2
   go_ret;exact⟨v',rfl,by rw[←HG.o,List.append_assoc];exact hown',hbel.trans (((Below.refl _ _).alloc (by omega) _).trans hbel')⟩
  ·obtain⟨f,rfl⟩:∃ f',f=f'+1:=by
    cases f with
    | zero => have := hY.o; simp at this; omega
    | succ f => exact ⟨f, rfl⟩
   have HG:=aa (show(pre++[((Y%128+128:Nat):Int)])++Mx.cq f (Y/128)=Mx.cj x by rw[←hG.o,Mx.je f Y (by omega),List.append_assoc];rfl);have HY:=aa (show Y/128<128 ^ (f+1) by have:=hY.o;rw[Nat.pow_succ] at this;exact Nat.div_lt_of_lt_mul (by omega));go_wp2_with (at_builtin;refine dY rfl _ _ rfl base (l++pre) (hO.o.alloc _) ⟨wr.heap.size,0,none⟩ 1 1 [((Y%128+128:Nat):Int)] rfl rfl ?c1 ?c2 ?c3 ?_);case c2=>omega
   case c3=>omega
   intro v' w' hown' hbel';go_wp2
   go_roundw
   case rel=>exact⟨f,Y/128,pre++[((Y%128+128:Nat):Int)],by omega,by simp;omega,HY,by omega,by go_num,HG,by unfold Hid;rw[show((Y%128+128:Nat):Int)=(Y:Int)%128+128 by omega];exact hown',hbel.trans (((Below.refl _ _).alloc (by omega) _).trans hbel')⟩
   case measure=>simp[intOf];omega
end
section
open Go.RowKit
variable {w w':World} {a:Option Addr} {len:Nat} {l:List Int}
namespace Mx
def dL (s:Nat):List Int:=[((s/16777216:Nat):Int),((s/65536%256:Nat):Int),((s/256%256:Nat):Int),((s%256:Nat):Int)]
end Mx
theorem Bytes.later (h:Bytes w a len l) (hb:Gq w w'):Bytes w' a len l:=by
 obtain⟨h1,h2,h3,h4⟩:=h;refine⟨h1,h2,h3,fun hp=>?_⟩;obtain⟨b,off,ha,hc⟩:=h4 hp;refine⟨b,off,ha,fun i hi=>?_⟩;have:=hc i hi;rw[hb.cell (p:=⟨b,off+i,none⟩) (World.block_lt_of_cell? w _ this)];exact this
theorem ay.later (h:ay w a len l) (hb:Gq w w'):ay w' a len l:=by
 obtain⟨h1,h2,h4⟩:=h;refine⟨h1,h2,fun hp=>?_⟩;obtain⟨b,off,ha,hlt,hc⟩:=h4 hp;refine⟨b,off,ha,by have:=hb.size;omega,fun i hi=>?_⟩;have:=hc i hi;rw[hb.cell (p:=⟨b,off+i,none⟩) hlt];exact this
theorem af (w:World) (o:Obj):Gq w (w.alloc o):=(Below.refl _ _).alloc (Gi _) _
theorem kM (S:Nat):((Mx.dL S).map (Value.int .u8)).toArray=#[.int .u8 ((S:Int)/16777216),.int .u8 ((S:Int)/65536%256),.int .u8 ((S:Int)/256%256),.int .u8 ((S:Int)%256)]:=by
 simp[Mx.dL]
theorem ou (a:Option Addr) (len cap:Nat) (l:List Int) (w:World) (hl:Bytes w a len l) :
 Calls Tryz.prog 121 #[.slice a len cap] w fun e w'=>e=.returned (.agg ((Mx.dL (Mx.crc l)).map (Value.int .u8)).toArray)∧Gq w w':=by
 have HL:=aa hl;clear hl;obtain⟨S,hS,hS2⟩:∃ S:Nat,Hid (S=Mx.crc l)∧(S:Int)<4294967296:=⟨_,rfl,by have:=Mx.rI l;omega⟩
 go_enter Tryz.func121,Tryz.ntmps121;go_wp2_with fail;refine(Eb a len cap l _ (HL.o.later (af _ _))).mono ?_;rintro e w' ⟨rfl,rfl⟩;rw[←hS.o];go_wp2_with fail;refine bodyPost_ret (v:=.agg #[.int .u8 ((S:Int)/16777216),.int .u8 ((S:Int)/65536%256),.int .u8 ((S:Int)/256%256),.int .u8 ((S:Int)%256)]) (by simp[results,Tryz.results121,go_sem]) rfl ⟨?_,af _ _⟩;rw[←hS.o,kM]
end
section
open Go.RowKit
variable {kind:Int} {l bs:List Int} {nb n:Nat} {w w':World}
namespace Mx
def bL (al:List Int):List Int:=al.flatMap fun x=>cj x.toNat
def db (kind:Int) (al:List Int) (nb:Nat) (bs:List Int):List Int:=[16*kind+(al.length:Int),(nb:Int)]++(bL al++bs)
def aY (kind:Int) (al:List Int) (nb:Nat) (bs:List Int):List Int:=db kind al nb bs++dL (crc (db kind al nb bs))
theorem yS (l:List Int) (k:Nat) (x:Int) (hk:k<l.length) (hx:l.getD k 0=x):bL (l.take (k+1))=bL (l.take k)++cj x.toNat:=by
 rw[List.take_succ_eq_append_getElem hk];rw[Ga,F0 hk] at hx;simp only[Option.getD_some] at hx;simp[bL,hx]
theorem vR (x:Nat):(cj x).length≤10:=tG 9 x
theorem kE (l:List Int):(bL l).length≤10*l.length:=by
 induction l with
 | nil => simp [bL]
 | cons x l ih => simp [bL] at *; have := vR x.toNat; omega
theorem yR (l:List Int) (h:∀ x∈l,0≤x∧x≤2147483647):∀ c∈bL l,0≤c∧c≤255:=by
 intro c hc;simp only[bL,List.mem_flatMap] at hc;obtain⟨x,hx,hc⟩:=hc;have hb:=h x hx;exact rQ 9 x.toNat (by omega) c hc
theorem nf (h0:0≤kind) (h1:kind≤15) (hl:l.length≤12) (hn:nb≤32) (hg:∀ x∈l,0≤x∧x≤2147483647) (hb:∀ x∈bs,0≤x∧x≤255) :
 ∀ x∈db kind l nb bs,0≤x∧x≤255:=by
 intro x hx;simp only[db,List.mem_append,List.mem_cons,List.not_mem_nil,or_false] at hx;rcases hx with (rfl|rfl)|hx|hx
 ·omega
 ·omega
 ·exact yR l hg x hx
 ·exact hb x hx
theorem xK (hl:l.length≤12) (hn:nb≤32) (hb:bs.length=8*nb):(db kind l nb bs).length≤2000:=by
 have:=kE l;simp[db];omega
theorem bX (l:List Int) (k:Nat) (x:Int) (hk:k<l.length) (hx:l.getD k 0=x):l.take (k+1)=l.take k++[x]:=by
 rw[List.take_succ_eq_append_getElem hk];rw[Ga,F0 hk] at hx;simp only[Option.getD_some] at hx;rw[hx]
end Mx
theorem zk {base g cap:Nat} (h:Own w base (.slice (some ⟨g,0,none⟩) n cap) l) (hb:∀ x∈l,0≤x∧x≤255):Bytes w (some ⟨g,0,none⟩) n l:=by
 have hc:=World.ownsRow.cells h (g:=g) rfl;rcases h.2 with ⟨hv,_⟩|⟨g',cap',cur,hv,_,_,hle,hmx,_⟩
 ·simp at hv
 ·simp at hv
  obtain⟨rfl,rfl,rfl⟩:=hv;refine⟨rfl,by omega,hb,fun _=>⟨g,0,rfl,fun i hi=>?_⟩⟩;have:=hc i (.int .u8 (l.getD i 0)) (by rw[List.getElem?_map,Ga,F0 hi];rfl);have hadd:(⟨g,0,none⟩:Addr).add i=⟨g,0+i,none⟩:=by unfold Addr.add;split<;>simp_all
  rw[←hadd];exact this
def aS (w:World) (a:Option Addr) (n:Nat) (bs:List Int):Prop :=
 bs.length=8*n∧n≤maxLen∧(∀ x∈bs,0≤x∧x≤255)∧(0<n→∃ b off,a=some ⟨b,off,none⟩∧b<w.heap.size∧∀ i,i<8*n→w.cell? ⟨b,off+i,none⟩=some (.int .u8 (bs.getD i 0)))
theorem Bw (w:World) (base:Nat) (l:List Int) (arr:Array Value) (h:arr=(l.map (Value.int .u8)).toArray) (hb:base≤w.heap.size) (hl:l.length≤1000000) :
 Own (w.alloc (.cells arr 5)) base (.slice (some ⟨w.heap.size,0,none⟩) l.length l.length) l:=by
 subst h;refine⟨by simp,.inr ⟨w.heap.size,l.length,(l.map (Value.int .u8)).toArray,rfl,hb,heap_alloc_new w _,Gi _,by unfold maxLen;omega,by simp,?_⟩⟩;rw[Gj (by simp)]
def Boxed (w wr:World) (s1 s2:Value):Prop :=
 wr.cell? ⟨w.heap.size,1,none⟩=some s1∧wr.cell? ⟨w.heap.size,2,none⟩=some s2∧Gq w wr∧w.heap.size+1≤wr.heap.size
theorem Boxed.later {wr:World} {s1 s2:Value} (h:Boxed w wr s1 s2) (hb:Below (w.heap.size+1) wr w'):Boxed w w' s1 s2 :=
 ⟨(hb.cell (p:=⟨w.heap.size,1,none⟩) (by simp)).trans h.1,(hb.cell (p:=⟨w.heap.size,2,none⟩) (by simp)).trans h.2.1,h.2.2.1.trans (hb.mono (by omega)),by have:=hb.size;have:=h.2.2.2;omega⟩
theorem Boxed.start (w:World) (k0 s1 s2:Value):Boxed w (w.alloc (.cells #[k0,s1,s2] 173)) s1 s2 :=
 ⟨by rw[World.cell?_alloc_new];rfl,by rw[World.cell?_alloc_new];rfl,af _ _,by simp⟩
theorem du {n2:Nat} (hm:Mx.may kind l n2=0):0≤kind∧kind≤15∧l.length≤12∧n2≤32∧∀ x∈l,0≤x∧x≤2147483647:=by
 unfold Mx.may at hm;split at hm
 ·omega
 ·split at hm
  ·omega
  ·split at hm
   ·omega
   ·rename_i h1 h2 h3
    refine⟨by omega,by omega,by omega,by omega,fun x hx=>?_⟩;rw[List.any_eq_true] at h3;have:¬Mx.bj x=true:=fun hb=>h3 ⟨x,hx,hb⟩
    simp[Mx.bj] at this;omega
theorem mL (l:List Int) (k:Nat) (hk:k<l.length):l.getD k 0∈l:=by
 rw[Ga,F0 hk];exact List.getElem_mem hk
theorem aS.later {a:Option Addr} (h:aS w a n bs) (hb:Gq w w'):aS w' a n bs:=by
 obtain⟨h1,h2,h3,h4⟩:=h;refine⟨h1,h2,h3,fun hp=>?_⟩;obtain⟨b,off,ha,hlt,hc⟩:=h4 hp;refine⟨b,off,ha,by have:=hb.size;omega,fun i hi=>?_⟩;have:=hc i hi;rw[hb.cell (p:=⟨b,off+i,none⟩) hlt];exact this
end
section
open Go.RowKit
theorem Bz (kind:Int) (a1 a2:Option Addr) (n1 c1 n2 c2:Nat) (l:List Int) (w:World) (h1:ay w a1 n1 l) (h2:n2≤maxLen) (hm:Mx.may kind l n2≠0) :
 Calls Tryz.prog 111 #[.agg #[.int .i64 kind,.slice a1 n1 c1,.slice a2 n2 c2]] w fun e w'=>e=.returned (.tuple #[.slice none 0 0,bt (Mx.may kind l n2)])∧Gq w w':=by
 have H1:=aa h1;clear h1;go_enter Tryz.func111,Tryz.ntmps111;go_wp2_with fail;refine(lh kind a1 a2 n1 c1 n2 c2 l _ (H1.o.later (af _ _)) h2).mono ?_;rintro e w' ⟨rfl,hbel⟩;rw[aZ hm];go_wp2
 go_ret2
 exact⟨by rw[aZ hm];rfl,(af _ _).trans (hbel.mono (by simp))⟩
theorem km (w:World) (news:List Int) (arr:Array Value) (t:TypeId) (h:arr=(news.map (Value.int .u8)).toArray) :
 ∀ j u,(news.map (Value.int .u8))[j]?=some u→(w.alloc (.cells arr t)).cell? ((⟨w.heap.size,0,none⟩:Addr).add j)=some u:=by
 intro j u hj;subst h;have hadd:(⟨w.heap.size,0,none⟩:Addr).add j=⟨w.heap.size,j,none⟩:=by unfold Addr.add;split<;>simp_all
 rw[hadd,World.cell?_alloc_new];simpa using hj
theorem zj {w w':World} {base:Nat} {v:Value} {l:List Int} (h:Own w base v l) (hb:Gq w w'):Own w' base v l :=
 World.ownsRow.kept h (row:=none) ⟨hb.os,hb.tape,hb.output,hb.size,fun k hk _=>hb.block k hk⟩ (by cases v.ownBlock<;>simp)
theorem eight {w:World} {b off:Nat} (bs:List Int) (n m:Nat) (hl:bs.length=8*n) (hm:m<n) (hc:∀ i,i<8*n→w.cell? ⟨b,off+i,none⟩=some (.int .u8 (bs.getD i 0))) :
 ∃ z0 z1 z2 z3 z4 z5 z6 z7:Int,w.cell? ⟨b,off+m*8,none⟩=some (.int .u8 z0)∧w.cell? ⟨b,off+m*8+1,none⟩=some (.int .u8 z1)∧w.cell? ⟨b,off+m*8+2,none⟩=some (.int .u8 z2) ∧
  w.cell? ⟨b,off+m*8+3,none⟩=some (.int .u8 z3)∧w.cell? ⟨b,off+m*8+4,none⟩=some (.int .u8 z4)∧w.cell? ⟨b,off+m*8+5,none⟩=some (.int .u8 z5) ∧
  w.cell? ⟨b,off+m*8+6,none⟩=some (.int .u8 z6)∧w.cell? ⟨b,off+m*8+7,none⟩=some (.int .u8 z7)∧bs.take (8*(m+1))=bs.take (8*m)++[z0,z1,z2,z3,z4,z5,z6,z7]:=by
 refine⟨bs.getD (8*m) 0,bs.getD (8*m+1) 0,bs.getD (8*m+1+1) 0,bs.getD (8*m+1+1+1) 0,bs.getD (8*m+1+1+1+1) 0,bs.getD (8*m+1+1+1+1+1) 0,bs.getD (8*m+1+1+1+1+1+1) 0,bs.getD (8*m+1+1+1+1+1+1+1) 0,?_,?_,?_,?_,?_,?_,?_,?_,?_⟩
 rotate_left 8
 ·rw[show 8*(m+1)=8*m+1+1+1+1+1+1+1+1 by omega]
  rw[Mx.bX bs _ _ (by omega) rfl,Mx.bX bs _ _ (by omega) rfl,Mx.bX bs _ _ (by omega) rfl,Mx.bX bs _ _ (by omega) rfl,
   Mx.bX bs _ _ (by omega) rfl,Mx.bX bs _ _ (by omega) rfl,Mx.bX bs _ _ (by omega) rfl,Mx.bX bs _ _ (by omega) rfl]
  simp only[List.append_assoc,List.cons_append,List.nil_append]
 ·have:=hc (8*m) (by omega);rw[show off+8*m=off+m*8 by omega] at this;exact this
 ·have:=hc (8*m+1) (by omega);rw[show off+(8*m+1)=off+m*8+1 by omega] at this;exact this
 ·have:=hc (8*m+1+1) (by omega);rw[show off+(8*m+1+1)=off+m*8+2 by omega] at this;exact this
 ·have:=hc (8*m+1+1+1) (by omega);rw[show off+(8*m+1+1+1)=off+m*8+3 by omega] at this;exact this
 ·have:=hc (8*m+1+1+1+1) (by omega);rw[show off+(8*m+1+1+1+1)=off+m*8+4 by omega] at this;exact this
 ·have:=hc (8*m+1+1+1+1+1) (by omega);rw[show off+(8*m+1+1+1+1+1)=off+m*8+5 by omega] at this;exact this
 ·have:=hc (8*m+1+1+1+1+1+1) (by omega);rw[show off+(8*m+1+1+1+1+1+1)=off+m*8+6 by omega] at this;exact this
 ·have:=hc (8*m+1+1+1+1+1+1+1) (by omega);rw[show off+(8*m+1+1+1+1+1+1+1)=off+m*8+7 by omega] at this;exact this
theorem oR (kind:Int) (a1 a2:Option Addr) (n1 c1 n2 c2:Nat) (l bs:List Int) (w:World) (h1:ay w a1 n1 l) (h2:aS w a2 n2 bs) (hm:Mx.may kind l n2=0) :
 Calls Tryz.prog 111 #[.agg #[.int .i64 kind,.slice a1 n1 c1,.slice a2 n2 c2]] w fun e w'=>∃ v,e=.returned (.tuple #[v,.nilIface])∧Own w' (w.heap.size+1) v (Mx.aY kind l n2 bs)∧Gq w w':=by
 obtain⟨hk0,hk1,hll,hn2,hg⟩:=du hm;have hn1:n1≤12:=by rw[←h1.1];exact hll
 have HG:=aa hg;have H1:=aa h1;have H2:=aa h2;have HM:=aa hm;clear h1 h2 hm hg hll;obtain⟨hd,hhd,hhl⟩:∃ hd:List Int,Hid (hd=[16*kind+(n1:Int),(n2:Int)])∧hd.length≤2:=⟨_,rfl,by simp⟩
 go_enter Tryz.func111,Tryz.ntmps111;go_wp2_with fail;refine(lh kind a1 a2 n1 c1 n2 c2 l _ (H1.o.later (af _ _)) H2.o.2.1).mono ?_;rintro e w1 ⟨rfl,hbel⟩;have hbx:=(Boxed.start w (.int .i64 kind) (.slice a1 n1 c1) (.slice a2 n2 c2)).later (w':=w1) (hbel.mono (by simp));have hk00:w1.cell? ⟨w.heap.size,0,none⟩=some (.int .i64 kind):=by
  rw[hbel.cell (p:=⟨w.heap.size,0,none⟩) (by simp),World.cell?_alloc_new];rfl
 have HBX:=aa hbx;obtain⟨hb1,hb2,hbel0,hsz⟩:=hbx;clear hbel;have hlt0:w.heap.size<w1.heap.size:=by omega
 rw[HM.o,aG];go_wp2
 go_loopw [5,7,32] (fun v _ i wr=>∃ k:Nat,k≤n1∧i=.int .i64 k∧Hid (Own wr (w.heap.size+1) v (hd++Mx.bL (l.take k)))∧Boxed w wr (.slice a1 n1 c1) (.slice a2 n2 c2))
  (fun _ _ i _=>n1-(intOf i).toNat)
 case atStart =>
  refine⟨0,by omega,rfl,?_,HBX.o.later ((Below.refl _ _).alloc (by omega) _)⟩;unfold Hid;have:=Bw w1 (w.heap.size+1) hd #[.int .u8 (kind*16+(n1:Int)),.int .u8 (n2:Int)] (by rw[hhd.o,Int.mul_comm];rfl) (by omega) (by omega);rw[hhd.o] at this ⊢;simpa [Mx.bL] using this
 case round =>
  clear HBX hb1 hb2 hbel0 hsz hk00 hlt0;obtain⟨k,hkn,rfl,hO,hbx⟩:=hrel;have HBX:=aa hbx;obtain⟨hb1,hb2,hbel,hsz⟩:=hbx;by_cases hlt:k<n1
  ·obtain⟨b,off,x,rfl,hb,hx,hcell⟩:=(H1.o.later hbel).at_ k hlt
   have HX:=aa hx;have hxb:=HG.o x (by rw[←hx];exact mL l k (by rw[H1.o.1];exact hlt));clear hx;obtain⟨hx0,hx1⟩:=hxb;obtain⟨X,rfl⟩:=Int.eq_ofNat_of_zero_le hx0;obtain⟨L0,hL0,hL0l⟩:∃ L0:List Int,Hid (L0=hd++Mx.bL (l.take k))∧L0.length≤10000:=⟨_,rfl,by have:=Mx.kE (l.take k);simp at *;omega⟩
   rw[←hL0.o] at hO;go_wp2_with fail;refine(mD (w.heap.size+1) u5 L0 X wr hO.o hsz hL0l hx1).mono ?_;rintro e w' ⟨v',rfl,hown',hbel'⟩;have HO:=aa hown';clear hown';go_wp2
   go_roundw
   case rel=>exact⟨k+1,by omega,by go_num,by unfold Hid;rw[Mx.yS l k _ (by rw[H1.o.1];exact hlt) HX.o,←List.append_assoc,←hL0.o,Int.toNat_natCast];exact HO.o,HBX.o.later hbel'⟩
   case measure=>simp[intOf];omega
  ·obtain⟨L1,hL1,hL1l⟩:∃ L1:List Int,Hid (L1=hd++Mx.bL l)∧L1.length≤1000:=⟨_,rfl,by have:=Mx.kE l;have:=H1.o.1;simp;omega⟩
   have hO1:Hid (Own wr (w.heap.size+1) u5 L1):=by
    unfold Hid;rw[hL1.o,←Gj (l:=l) (i:=k) (by rw[H1.o.1];omega)];exact hO.o
   clear hO;go_wp2
   go_loopw [5,9,43] (fun v _ i wr=>∃ m:Nat,m≤n2∧i=.int .i64 m∧Hid (Own wr (w.heap.size+1) v (L1++bs.take (8*m)))∧Boxed w wr (.slice a1 n1 c1) (.slice a2 n2 c2))
    (fun _ _ i _=>n2-(intOf i).toNat)
   case atStart=>exact⟨0,by omega,rfl,by unfold Hid;rw[Nat.mul_zero,List.take_zero,List.append_nil];exact hO1,HBX⟩
   case round =>
    clear hb1 hb2 hbel hsz HBX hO1;obtain⟨m,hmn,rfl,hO,hbx⟩:=hrel;have HBX:=aa hbx;obtain⟨hb1,hb2,hbel,hsz⟩:=hbx;by_cases hlt2:m<n2
    ·obtain⟨b,off,rfl,hb,hcs⟩:=H2.o.2.2.2 (by omega)
     obtain⟨z0,z1,z2,z3,z4,z5,z6,z7,e0,e1,e2,e3,e4,e5,e6,e7,htk⟩:=eight (w:=wr) (b:=b) (off:=off) bs n2 m H2.o.1 hlt2 (fun i hi=>(hbel.cell (p:=⟨b,off+i,none⟩) hb).trans (hcs i hi));have HTK:=aa htk;have hbl:=aa (show(bs.take (8*m)).length≤256 by rw[Gk];have:=H2.o.1;omega);clear hcs htk;go_wp2_with (at_builtin;refine dY rfl _ _ rfl (w.heap.size+1) (L1++bs.take (8*m)) (hO.o.alloc _) ⟨wr.heap.size,0,none⟩ 8 8 [z0,z1,z2,z3,z4,z5,z6,z7] rfl rfl ?c1 ?c2 ?c3 ?_);case c1=>exact km _ _ _ _ rfl
     case c2=>have:=hbl.o;rw[Ge];omega
     case c3=>simp;omega
     intro v' w' hown' hbel3;have HO:=aa hown';clear hown';go_wp2
     go_roundw
     case rel=>exact⟨m+1,by omega,by go_num,by unfold Hid;rw[HTK.o,←List.append_assoc];simpa [List.append_assoc] using HO.o,HBX.o.later (((Below.refl _ _).alloc (by omega) _).trans hbel3)⟩
     case measure=>simp[intOf];omega
    ·obtain⟨Bd,hBd,hBd2,hBl,hBn⟩:∃ Bd:List Int,Hid (Bd=Mx.db kind l n2 bs)∧Hid (∀ x∈Bd,0≤x∧x≤255)∧Bd.length≤2000∧Bd≠[] :=
      ⟨_,rfl,Mx.nf hk0 hk1 (by rw[H1.o.1];exact hn1) hn2 HG.o H2.o.2.2.1,Mx.xK (by rw[H1.o.1];exact hn1) hn2 H2.o.1,by unfold Mx.db;simp⟩
     have hB:Own wr (w.heap.size+1) u5 Bd:=by
      rw[hBd.o,Mx.db,←List.append_assoc,H1.o.1,←hhd.o,←hL1.o,←Gj (l:=bs) (i:=8*m) (by rw[H2.o.1];omega)];exact hO.o
     obtain⟨g,cap,rfl,hg1,hg2⟩:=zm hB hBn;have HB:=aa hB;have HBY:=aa (zk hB hBd2.o);clear hB hO;obtain⟨S,hS,hS2⟩:∃ S:Nat,Hid (S=Mx.crc Bd)∧(S:Int)<4294967296:=⟨_,rfl,by have:=Mx.rI Bd;omega⟩
     go_wp2_with fail;refine(ou (some ⟨g,0,none⟩) Bd.length cap Bd wr HBY.o).mono ?_;rintro e w2 ⟨rfl,hbel2⟩;rw[←hS.o,kM];have hsz2:=hbel2.size;have HB2:=aa (zj HB.o hbel2);go_wp2_with (at_builtin;refine dY rfl _ _ rfl (w.heap.size+1) Bd (HB2.o.alloc _) ⟨w2.heap.size,0,none⟩ 4 4 (Mx.dL S) rfl rfl ?c1 ?c2 ?c3 ?_);case c1=>exact km w2 (Mx.dL S) _ _ (kM S).symm
     case c2=>omega
     case c3=>simp;omega
     intro v' w' hown' hbel';go_wp2
     go_ret2
     refine⟨v',rfl,by rw[Mx.aY,←hBd.o,←hS.o];exact hown',?_⟩;exact hbel.trans ((hbel2.mono (by omega)).trans (((Below.refl _ _).alloc (by omega) _).trans (hbel'.mono (by omega))))
end
section
open Go.RowKit
theorem eS {w:World} {kind:Int} {a2:Option Addr} {n2:Nat} {l bs:List Int} (h2:aS w a2 n2 bs) (hm:Mx.may kind l n2=0):∀ x∈Mx.aY kind l n2 bs,0≤x∧x≤255:=by
 obtain⟨hk0,hk1,hll,hn2,hg⟩:=du hm;intro x hx;rw[Mx.aY,List.mem_append] at hx;rcases hx with hx|hx
 ·exact Mx.nf hk0 hk1 hll hn2 hg h2.2.2.1 x hx
 ·have:=Mx.rI (Mx.db kind l n2 bs)
  simp only[Mx.dL,List.mem_cons,List.not_mem_nil,or_false] at hx;rcases hx with rfl|rfl|rfl|rfl<;>omega
end
section

namespace Mx
def cM:List Int→Nat
 | [] => 0
 | c :: l => c.toNat % 128 + 128 * cM l
theorem pK (l:List Int) (c:Int):cM (l++[c])=cM l+c.toNat%128*128 ^ l.length:=by
 induction l with
 | nil => simp [cM]
 | cons d l ih =>
  simp only[List.cons_append,cM,ih,List.length_cons,Nat.pow_succ];rw[Nat.mul_add,←Nat.add_assoc];congr 1
  rw[Nat.mul_comm 128,Nat.mul_assoc]
theorem C3 (l:List Int):cM l<128 ^ l.length:=by
 induction l with
 | nil => simp [cM]
 | cons d l ih =>
  simp only[cM,List.length_cons,Nat.pow_succ];omega
theorem AW (l:List Int) (c:Int) (h0:1≤c) (h1:c<128):1≤cM (l++[c]):=by
 rw[pK];have:1≤c.toNat%128:=by omega
 have h2:0<128 ^ l.length:=Nat.pow_pos (by omega);have:=Nat.mul_le_mul this h2;omega
def ig (l:List Int):Prop:=∀ c∈l,128≤c∧c≤255
theorem pJ (pre:List Int) (c:Int) (f:Nat) (hp:ig pre) (hc0:0≤c) (hc:c<128) (hn:1≤c∨pre=[]) (hf:pre.length≤f):cq f (cM (pre++[c]))=pre++[c]:=by
 induction pre generalizing f with
 | nil =>
  have:cM ([]++[c])=c.toNat:=by simp[cM];omega
  rw[this,jH _ _ (by omega)];simp;omega
 | cons p ps ih =>
  have hc1:1≤c:=by rcases hn with h|h;exact h;simp at h
  cases f with
  | zero => simp at hf
  | succ f =>
   have hpp:=hp p (by simp);have hv:cM (p::ps++[c])=p.toNat%128+128*cM (ps++[c]):=rfl;have h1:=AW ps c hc1 hc;rw[hv,je _ _ (by omega)];have e1:(p.toNat%128+128*cM (ps++[c]))/128=cM (ps++[c]):=by omega
   have e2:(((p.toNat%128+128*cM (ps++[c]))%128+128:Nat):Int)=p:=by omega
   rw[e1,e2,ih f (fun x hx=>hp x (by simp[hx])) (.inl hc1) (by simp at hf;omega)];rfl
theorem lz (f x:Nat) (h:x<128 ^ (f+1)):∃ pre c,cq f x=pre++[c]∧ig pre∧0≤c∧c<128∧(1≤c∨pre=[])∧cM (pre++[c])=x∧pre.length≤f:=by
 induction f generalizing x with
 | zero =>
  simp at h;exact⟨[],(x:Int),rfl,(fun c hc=>absurd hc (by simp)),by omega,by omega,.inr rfl,by simp[cM];omega,Gi _⟩
 | succ f ih =>
  by_cases hx:x<128
  ·exact⟨[],(x:Int),by rw[jH _ _ hx];rfl,(fun c hc=>absurd hc (by simp)),by omega,by omega,.inr rfl,by simp[cM];omega,by simp⟩
  ·obtain⟨pre,c,h1,h2,h3,h4,h5,h6,h7⟩:=ih (x/128) (by rw[Nat.pow_succ] at h;exact Nat.div_lt_of_lt_mul (by omega))
   refine⟨((x%128+128:Nat):Int)::pre,c,by rw[je _ _ (by omega),h1];rfl,?_,h3,h4,?_,?_,by simp;omega⟩
   ·intro d hd
    rcases List.mem_cons.1 hd with rfl|hd
    ·omega
    ·exact h2 d hd
   ·rcases h5 with h|h
    ·exact .inl h
    ·subst h
     simp[cM] at h6;left;omega
   ·show(((x%128+128:Nat):Int)).toNat%128+128*cM (pre++[c])=x
    rw[h6];omega
theorem rR (f k x:Nat) (h:x<128 ^ (k+1)) (hk:k≤f):cq f x=cq k x:=by
 obtain⟨pre,c,h1,h2,h3,h4,h5,h6,h7⟩:=lz k x h;rw[h1,←h6];exact pJ pre c f h2 h3 h4 h5 (by omega)
theorem jI (x:Nat) (h:x≤2147483647):∃ pre c,cj x=pre++[c]∧ig pre∧0≤c∧c<128∧(1≤c∨pre=[])∧cM (pre++[c])=x∧pre.length≤4:=by
 obtain⟨pre,c,h1,h2⟩:=lz 4 x (by omega);exact⟨pre,c,by unfold cj;rw[rR 9 4 x (by omega) (by omega),h1],h2⟩
theorem rJ (pre pre' r r':List Int) (c c':Int) (h:pre++c::r=pre'++c'::r') (h1:ig pre) (h2:ig pre') (hc:c<128) (hc':c'<128):pre=pre'∧c=c'∧r=r':=by
 induction pre generalizing pre' with
 | nil =>
  cases pre' with
  | nil => simp at h; exact ⟨rfl, h.1, h.2⟩
  | cons q qs => simp at h; have := h2 q (by simp); omega
 | cons p ps ih =>
  cases pre' with
  | nil => simp at h; have := h1 p (by simp); omega
  | cons q qs =>
   simp only[List.cons_append,List.cons.injEq] at h;obtain⟨e1,e2,e3⟩:=ih qs h.2 (fun x hx=>h1 x (by simp[hx])) (fun x hx=>h2 x (by simp[hx]));exact⟨by rw[h.1,e1],e2,e3⟩
theorem vQ (x y:Nat) (r r':List Int) (hx:x≤2147483647) (hy:y≤2147483647) (h:cj x++r=cj y++r'):x=y∧r=r':=by
 obtain⟨pre,c,h1,h2,h3,h4,h5,h6,h7⟩:=jI x hx;obtain⟨pre',c',g1,g2,g3,g4,g5,g6,g7⟩:=jI y hy;rw[h1,g1,List.append_assoc,List.append_assoc] at h;obtain⟨e1,e2,e3⟩:=rJ pre pre' r r' c c' h h2 g2 h4 g4;subst e1 e2;exact⟨h6.symm.trans g6,e3⟩
theorem sD (l m r r':List Int) (hl:∀ x∈l,0≤x∧x≤2147483647) (hm:∀ x∈m,0≤x∧x≤2147483647) (hlen:l.length=m.length) (h:bL l++r=bL m++r'):l=m∧r=r':=by
 induction l generalizing m with
 | nil =>
  cases m with
  | nil => exact ⟨rfl, by simpa [bL] using h⟩
  | cons y m => simp at hlen
 | cons x l ih =>
  cases m with
  | nil => simp at hlen
  | cons y m =>
   have e:∀ z (l:List Int),bL (z::l)=cj z.toNat++bL l:=fun z l=>by simp[bL]
   rw[e,e,List.append_assoc,List.append_assoc] at h;have hx:=hl x (by simp);have hy:=hm y (by simp);obtain⟨e1,e2⟩:=vQ _ _ _ _ (by omega) (by omega) h;obtain⟨e3,e4⟩:=ih m (fun z hz=>hl z (by simp[hz])) (fun z hz=>hm z (by simp[hz])) (by simpa using hlen) e2;exact⟨by rw[e3,show x=y by omega],e4⟩
def aE (b:List Int) (kind:Int) (al:List Int) (nb:Nat) (bs:List Int):Prop :=
 may kind al nb=0∧bs.length=8*nb∧(∀ x∈bs,0≤x∧x≤255)∧aY kind al nb bs=b
theorem ia (s:Nat):(dL s).length=4:=rfl
theorem aE.one {b:List Int} {k k':Int} {l l':List Int} {n n':Nat} {s s':List Int} (h:aE b k l n s) (h':aE b k' l' n' s'):k=k'∧l=l'∧n=n'∧s=s':=by
 obtain⟨m1,m2,m3,m4⟩:=h;obtain⟨m1',m2',m3',m4'⟩:=h';obtain⟨a1,a2,a3,a4,a5⟩:=du m1;obtain⟨b1,b2,b3,b4,b5⟩:=du m1';rw[←m4'] at m4;unfold aY at m4;have hb:=(List.append_inj' m4 (by simp[ia])).1;unfold db at hb;simp only[List.cons_append,List.nil_append,List.cons.injEq] at hb;obtain⟨c1,c2,c3⟩:=hb;have hn:n=n':=by omega
 obtain⟨d1,d2⟩:=sD l l' s s' a5 b5 (by omega) c3;subst d1;exact⟨by omega,rfl,hn,d2⟩
theorem scan (r:List Int) (x j:Nat) (hx:x≤2147483647) (t:List Int) (hr:r=cj x++t) (hj:j≤r.length) (hh:ig (r.take j)) :
 j≤4∧j<(cj x).length∧∀ c rest,r.drop j=c::rest→c<128→(cj x).length=j+1∧cM (r.take (j+1))=x∧(1≤c∨j=0)∧0≤c:=by
 obtain⟨pre,d,h1,h2,h3,h4,h5,h6,h7⟩:=jI x hx;have hlen:(cj x).length=pre.length+1:=by rw[h1];simp
 have hr2:r=pre++d::t:=by rw[hr,h1];simp
 have hjp:j≤pre.length:=by
  rcases Nat.lt_or_ge pre.length j with hlt|hge
  ·exfalso
   have:d∈r.take j:=by
    rw[List.mem_take_iff_getElem];refine⟨pre.length,by rw[hr2] at *;simp at *;omega,?_⟩;simp[hr2]
   have:=hh d this;omega
  ·exact hge
 refine⟨by omega,by omega,fun c rest hd hc=>?_⟩;have e:r.take j++c::rest=pre++d::t:=by rw[←hd,List.take_append_drop,hr2]
 obtain⟨e1,e2,e3⟩:=rJ _ _ _ _ _ _ e hh h2 hc h4;have hjl:j=pre.length:=by rw[←e1,Gk];omega
 refine⟨by omega,?_,?_,by omega⟩
 ·have:r.take (j+1)=pre++[d]:=by rw[hr2,hjl,List.take_append];simp[List.take_of_length_le]
  rw[this,h6]
 ·rcases h5 with h|h
  ·exact .inl (by omega)
  ·exact .inr (by rw[hjl,h];rfl)
end Mx
end
section
open Go.RowKit
def qY (l:List Int) (n size:Nat):Prop :=
 (1≤size∧size≤l.length∧n≤2147483647∧l.take size=Mx.cj n)∨(size=0∧n=0∧∀ x t,x≤2147483647→l≠Mx.cj x++t)
theorem lL (V c m:Nat) (j:Nat) (hV:V<2 ^ j) (hm:m=2 ^ j) (hj:j≤28):bits .or .u64 (V:Int) ((c:Int)%128*(m:Int))=((V+c%128*m:Nat):Int):=by
 have hp:2 ^ j≤2 ^ 28:=Nat.pow_le_pow_right (by omega) hj;have hm28:m≤268435456:=by rw[hm];exact hp
 have hb:c%128*m≤127*268435456:=Nat.mul_le_mul (by omega) hm28;have e:(c:Int)%128*(m:Int)=((c%128*m:Nat):Int):=by simp
 rw[e,u64_or_nat V (c%128*m) (by omega) (by omega)];congr 1
 have:=Nat.two_pow_add_eq_or_of_lt (i:=j) hV (c%128);rw[hm,Nat.or_comm,Nat.mul_comm (c%128),←this,Nat.add_comm]
theorem gZ (l:List Int) (j V c Z:Nat) (hl:j<l.length) (hV:V=Mx.cM (l.take j)) (hc:l.take (j+1)=l.take j++[(c:Int)]) (hZ:Z=V+c%128*128 ^ j):Z=Mx.cM (l.take (j+1)):=by
 rw[hc,Mx.pK,hZ,hV,Gk,Nat.min_eq_left (by omega)];simp
theorem xj (l:List Int) (j V:Nat) (hV:V=Mx.cM (l.take j)):V<128 ^ j:=by
 have h1:=Mx.C3 (l.take j);have h2:128 ^ (l.take j).length≤128 ^ j:=Nat.pow_le_pow_right (by omega) (by rw[Gk];omega);omega
theorem gY (l:List Int) (j c:Nat) (hH:Mx.ig (l.take j)) (ht:l.take (j+1)=l.take j++[(c:Int)]) (h1:128≤(c:Int)) (h2:c≤255):Mx.ig (l.take (j+1)):=by
 rw[ht];intro d hd;rcases List.mem_append.1 hd with h|h
 ·exact hH d h
 ·simp at h;omega
theorem CV (l:List Int) (j c:Nat) (hl:j<l.length) (hc:l.getD j 0=(c:Int)):l.drop j=(c:Int)::l.drop (j+1):=by
 rw[List.drop_eq_getElem_cons hl];rw[Ga,F0 hl] at hc;simp at hc;rw[hc]
theorem gP (l:List Int) (j c Z:Nat) (hj:j<l.length) (hj4:j≤4) (hH:Mx.ig (l.take j)) (ht:l.take (j+1)=l.take j++[(c:Int)]) (hc:(c:Int)<128) (hn:¬c=0∨j=0) (hZ:Z=Mx.cM (l.take (j+1))) (hm:(Z:Int)≤2147483647) :
 qY l Z (j+1):=by
 refine .inl ⟨by omega,by omega,by omega,?_⟩;have h2:=Mx.pJ (l.take j) (c:Int) 9 hH (by omega) hc (by rcases hn with h|h;exact .inl (by omega);exact .inr (by rw[h];simp)) (by rw[Gk];omega);rw[ht] at hZ ⊢;rw[hZ];exact h2.symm
theorem fZ (l:List Int) (j c Z:Nat) (hj:j<l.length) (hH:Mx.ig (l.take j)) (hd:l.getD j 0=(c:Int)) (hc:(c:Int)<128) (hZ:Z=Mx.cM (l.take (j+1))) (hb:(c=0∧j≠0)∨2147483647<(Z:Int)):qY l 0 0:=by
 refine .inr ⟨rfl,rfl,fun x t hx e=>?_⟩;obtain⟨_,_,h⟩:=Mx.scan l x j hx t e (by omega) hH;obtain⟨_,h2,h3,_⟩:=h _ _ (CV l j c hj hd) hc;rcases hb with ⟨h4,h5⟩|h4
 ·rcases h3 with h3|h3<;>omega
 ·omega
theorem sE (l:List Int) (j:Nat) (hj:j≤l.length) (hH:Mx.ig (l.take j)) (he:j=l.length∨j=5):qY l 0 0:=by
 refine .inr ⟨rfl,rfl,fun x t hx e=>?_⟩;obtain⟨h1,h2,_⟩:=Mx.scan l x j hx t e hj hH;rcases he with he|he
 ·have:=congrArg List.length e
  rw[Ge] at this;omega
 ·omega
theorem oV (a:Option Addr) (len cap:Nat) (l:List Int) (w:World) (hl:Bytes w a len l) :
 Calls Tryz.prog 143 #[.slice a len cap] w fun e w'=>∃ n size:Nat,e=.returned (.tuple #[.int .i64 n,.int .i64 size])∧qY l n size∧w'=w:=by
 have hlen:len≤maxLen:=hl.2.1;unfold maxLen at hlen;have HL:=aa hl.1;have HB:=aa hl;clear hl;go_enter Tryz.func143,Tryz.ntmps143;go_wp2
 go_loop [4,10] (fun v i=>∃ j V:Nat,j≤len∧j≤5∧Hid (V=Mx.cM (l.take j))∧Hid (Mx.ig (l.take j))∧i=.int .i64 j∧v=.int .u64 V)
  (fun _ i=>len-(intOf i).toNat)
 case atStart=>exact⟨0,0,by omega,by omega,rfl,(fun c hc=>absurd hc (by simp)),rfl,rfl⟩
 case round =>
  obtain⟨j,V,hj,hj5,hV,hH,rfl,rfl⟩:=hrel;by_cases hlt:j<len
  ·obtain⟨b,off,c,rfl,hc1,hc2,hcell,htk⟩:=(bK HB).at_ j hlt
   have HC:=aa hc2;have HT:=aa htk;clear hc2 htk;by_cases h5:j=5
   ·have HN:=aa (sE l j (by rw[HL.o];omega) hH.o (.inr h5))
    have h5':((j:Int)==5)=true:=by simp;omega
    clear h5;go_wp2
    go_ret2
    exact⟨0,0,rfl,HN.o,rfl⟩
   ·have HVB:=aa (xj l j V hV.o)
    obtain rfl|rfl|rfl|rfl|rfl:j=0∨j=1∨j=2∨j=3∨j=4:=by omega
    ·obtain⟨Z,hZ,hor⟩:∃ Z:Nat,Hid (Z=V+c%128*1)∧bits .or .u64 (V:Int) ((c:Int)%128)=(Z:Int):=⟨_,rfl,by simpa using lL V c 1 0 (by have:=HVB.o;omega) rfl (by omega)⟩
     have HZ:=aa (gZ l 0 V c Z (by rw[HL.o];omega) hV.o HT.o (by rw[hZ.o]));have HJ:=aa (show 0<l.length by rw[HL.o];omega);have hZs:(Z:Int)≤2147483647:=by have:=hZ.o;have:=HVB.o;omega
     clear h5;have hcell0:w.cell? ⟨b,off,none⟩=some (.int .u8 (c:Int)):=by simpa using hcell
     by_cases hc0:c=0
     ·have hc0':((c:Int)==0)=true:=by simp;omega
      have hlow:(c:Int)<128:=by omega
      clear hc0;go_wp2_with fail;go_ret2
      exact⟨Z,1,by go_num,gP l 0 c Z HJ.o (by omega) hH.o HT.o ‹_› (.inr rfl) HZ.o ‹_›,rfl⟩
     ·have hc0':((c:Int)==0)=false:=by simp;omega
      clear hc0;go_wp2_with fail
      ·go_ret2
       exact⟨Z,1,by go_num,gP l 0 c Z HJ.o (by omega) hH.o HT.o ‹_› (.inr rfl) HZ.o ‹_›,rfl⟩
      ·go_round
       case rel=>exact⟨1,Z,by omega,by omega,HZ,gY l 0 c hH.o HT.o ‹_› hc1,rfl,rfl⟩
       case measure=>simp[intOf];omega
    ·obtain⟨Z,hZ,hor⟩:∃ Z:Nat,Hid (Z=V+c%128*128)∧bits .or .u64 (V:Int) ((c:Int)%128*128)=(Z:Int):=⟨_,rfl,lL V c 128 7 (by have:=HVB.o;omega) rfl (by omega)⟩
     have HZ:=aa (gZ l 1 V c Z (by rw[HL.o];omega) hV.o HT.o (by rw[hZ.o]));have HJ:=aa (show 1<l.length by rw[HL.o];omega);clear h5;go_wp2_with fail
     ·go_ret2
      exact⟨0,0,rfl,fZ l 1 c Z HJ.o hH.o HC.o ‹_› HZ.o (.inl ⟨‹_›,by omega⟩),rfl⟩
     ·go_ret2
      exact⟨0,0,rfl,fZ l 1 c Z HJ.o hH.o HC.o ‹_› HZ.o (.inr ‹_›),rfl⟩
     ·go_ret2
      exact⟨Z,2,by go_num,gP l 1 c Z HJ.o (by omega) hH.o HT.o ‹_› (.inl ‹_›) HZ.o ‹_›,rfl⟩
     ·go_round
      case rel=>exact⟨2,Z,by omega,by omega,HZ,gY l 1 c hH.o HT.o ‹_› hc1,rfl,rfl⟩
      case measure=>simp[intOf];omega
    ·obtain⟨Z,hZ,hor⟩:∃ Z:Nat,Hid (Z=V+c%128*16384)∧bits .or .u64 (V:Int) ((c:Int)%128*16384)=(Z:Int):=⟨_,rfl,lL V c 16384 14 (by have:=HVB.o;omega) rfl (by omega)⟩
     have HZ:=aa (gZ l 2 V c Z (by rw[HL.o];omega) hV.o HT.o (by rw[hZ.o]));have HJ:=aa (show 2<l.length by rw[HL.o];omega);clear h5;go_wp2_with fail
     ·go_ret2
      exact⟨0,0,rfl,fZ l 2 c Z HJ.o hH.o HC.o ‹_› HZ.o (.inl ⟨‹_›,by omega⟩),rfl⟩
     ·go_ret2
      exact⟨0,0,rfl,fZ l 2 c Z HJ.o hH.o HC.o ‹_› HZ.o (.inr ‹_›),rfl⟩
     ·go_ret2
      exact⟨Z,3,by go_num,gP l 2 c Z HJ.o (by omega) hH.o HT.o ‹_› (.inl ‹_›) HZ.o ‹_›,rfl⟩
     ·go_round
      case rel=>exact⟨3,Z,by omega,by omega,HZ,gY l 2 c hH.o HT.o ‹_› hc1,rfl,rfl⟩
      case measure=>simp[intOf];omega
    ·obtain⟨Z,hZ,hor⟩:∃ Z:Nat,Hid (Z=V+c%128*2097152)∧bits .or .u64 (V:Int) ((c:Int)%128*2097152)=(Z:Int):=⟨_,rfl,lL V c 2097152 21 (by have:=HVB.o;omega) rfl (by omega)⟩
     have HZ:=aa (gZ l 3 V c Z (by rw[HL.o];omega) hV.o HT.o (by rw[hZ.o]));have HJ:=aa (show 3<l.length by rw[HL.o];omega);clear h5;go_wp2_with fail
     ·go_ret2
      exact⟨0,0,rfl,fZ l 3 c Z HJ.o hH.o HC.o ‹_› HZ.o (.inl ⟨‹_›,by omega⟩),rfl⟩
     ·go_ret2
      exact⟨0,0,rfl,fZ l 3 c Z HJ.o hH.o HC.o ‹_› HZ.o (.inr ‹_›),rfl⟩
     ·go_ret2
      exact⟨Z,4,by go_num,gP l 3 c Z HJ.o (by omega) hH.o HT.o ‹_› (.inl ‹_›) HZ.o ‹_›,rfl⟩
     ·go_round
      case rel=>exact⟨4,Z,by omega,by omega,HZ,gY l 3 c hH.o HT.o ‹_› hc1,rfl,rfl⟩
      case measure=>simp[intOf];omega
    ·obtain⟨Z,hZ,hor⟩:∃ Z:Nat,Hid (Z=V+c%128*268435456)∧bits .or .u64 (V:Int) ((c:Int)%128*268435456)=(Z:Int):=⟨_,rfl,lL V c 268435456 28 (by have:=HVB.o;omega) rfl (by omega)⟩
     have HZ:=aa (gZ l 4 V c Z (by rw[HL.o];omega) hV.o HT.o (by rw[hZ.o]));have HJ:=aa (show 4<l.length by rw[HL.o];omega);clear h5;go_wp2_with fail
     ·go_ret2
      exact⟨0,0,rfl,fZ l 4 c Z HJ.o hH.o HC.o ‹_› HZ.o (.inl ⟨‹_›,by omega⟩),rfl⟩
     ·go_ret2
      exact⟨0,0,rfl,fZ l 4 c Z HJ.o hH.o HC.o ‹_› HZ.o (.inr ‹_›),rfl⟩
     ·go_ret2
      exact⟨Z,5,by go_num,gP l 4 c Z HJ.o (by omega) hH.o HT.o ‹_› (.inl ‹_›) HZ.o ‹_›,rfl⟩
     ·go_round
      case rel=>exact⟨5,Z,by omega,by omega,HZ,gY l 4 c hH.o HT.o ‹_› hc1,rfl,rfl⟩
      case measure=>simp[intOf];omega
  ·have HN:=aa (sE l j (by rw[HL.o];omega) hH.o (.inl (by rw[HL.o];omega)))
   go_wp2
   go_ret2
   exact⟨0,0,rfl,HN.o,rfl⟩
end
end Go.Proofs.YtbicgjafjjihdaaGreatDoor
