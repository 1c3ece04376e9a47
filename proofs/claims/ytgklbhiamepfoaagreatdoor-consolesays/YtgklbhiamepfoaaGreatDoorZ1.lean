import Derived.Lib.SplitLaws
set_option maxHeartbeats 16000000
set_option maxRecDepth 100000
namespace Go.Proofs.YtgklbhiamepfoaaGreatDoor
namespace Mx
end Mx
open Mx
variable {n:Nat}
section
variable {c:UInt8}
namespace Mx
abbrev Tx:=List UInt8
def jE(p:Tx)(l:List Tx):List Tx:=(p++l.headD [])::l.tail
def cut (c:UInt8):Tx→List Tx
 | [] => [[]]
 | x :: s => if x = c then [] :: cut c s else jE [x] (cut c s)
theorem lP(c:UInt8)(s:Tx):cut c s≠[]:=by
 cases s with
 |nil=>simp[cut]
 |cons x s=>rw[cut];split<;>simp[jE]
theorem vy{l:List Tx}(h:l≠[]):jE [] l=l:=by
 cases l with
 |nil=>exact absurd rfl h
 |cons a r=>rfl
theorem mr{c:UInt8}:∀{s:Tx},c∉s->cut c s=[s]
 |[],_=>rfl
 |x::s,h=>by
  simp only[List.mem_cons,not_or] at h;rw[cut,if_neg (Ne.symm h.1),mr h.2];rfl
theorem ss{c:UInt8}(b:Tx):∀{a:Tx},c∉a->cut c (a++c::b)=a::cut c b
 |[],_=>by rw[List.nil_append,cut,if_pos rfl]
 |x::a,h=>by
  simp only[List.mem_cons,not_or] at h;rw[List.cons_append,cut,if_neg (Ne.symm h.1),ss b h.2];rfl
def lns (s:Tx):List Tx:=if (cut 10 s).getLast?=some [] then (cut 10 s).dropLast else cut 10 s
theorem H6{s:Tx}(h:(10:UInt8)∉s)(h0:s≠[]):lns s=[s]:=by unfold lns;rw[mr h];simp[h0]
theorem Kq{a:Tx}(b:Tx)(h:(10:UInt8)∉a):lns (a++10::b)=a::lns b:=by
 unfold lns;rw[ss b h];cases hc:cut 10 b with
 |nil=>exact absurd hc (lP _ _)
 |cons x l=>rw[List.getLast?_cons_cons];split<;>simp
theorem vX{s:Tx}(h:Lib.indexByte s c=-1):c∉s:=λa=>by
 have⟨i,b⟩:=List.mem_iff_getElem?.1 a;exact Lib.indexByte_none h i b
theorem oQ{s:Tx}(h:Lib.indexByte s c=n):s=s.take n++c::s.drop (n+1)/\c∉s.take n/\n<s.length:=by
 have⟨h1,h2⟩:=Lib.indexByte_some h;have⟨d,e⟩:=List.getElem?_eq_some_iff.1 h1;refine⟨by rw[<-e,List.getElem_cons_drop,List.take_append_drop],λf=>?_,d⟩;have⟨k,a⟩:=List.mem_iff_getElem?.1 f;rw[List.getElem?_take] at a;split at a
 ·rename_i b;exact h2 k b a
 ·cases a
theorem uj(c:UInt8):∀(k:Nat) (s:Tx),s.count c<=k->Lib.splitK [c] 0 k s=cut c s
 |0,s,h=>by rw[mr (List.count_eq_zero.1 (Nat.le_zero.1 h))];rfl
 |k+1,s,h=>by
  unfold Lib.splitK;rw[Lib.index_one];have d:=Lib.indexByte_ge s c;split
  ·rename_i a;rw[mr (vX (by simpa using a))]
  ·rename_i a
   obtain⟨i,b⟩:∃i:Nat,Lib.indexByte s c=i:=⟨(Lib.indexByte s c).toNat,by simp at a;omega⟩
   have⟨h1,h2,_⟩:=oQ b;have e:s.count c=(s.drop (i+1)).count c+1:=by
    conv=>lhs;rw[h1,List.count_append,List.count_eq_zero.2 h2,List.count_cons_self]
    omega
   rw[b];simp only[Int.toNat_natCast,Nat.add_zero,List.length_cons,List.length_nil,Nat.zero_add];rw[uj c k _ (by omega)];conv=>rhs;rw[h1,ss _ h2]
def jf:Nat→Tx→Option Nat
 | x, [] => some x
 | x, c :: r => if 48 ≤ c.toNat ∧ c.toNat ≤ 57 then jf (10 * x + (c.toNat - 48)) r else none
def num (s:Tx):Option Nat:=if s.length<1∨6<s.length∨1<s.length∧s[0]?=some 48 then none else jf 0 s
def dg:Tx:=[48,49,50,51,52,53,54,55,56,57,97,98,99,100,101,102]
def hx(c:UInt8):Int:=Lib.indexByte dg c
theorem iy(c:UInt8):-1<=hx c/\hx c<=15:=by
 refine⟨Lib.indexByte_ge _ _,?_⟩;by_cases h:hx c<0
 ·omega
 ·have a:=(oQ (show Lib.indexByte dg c=(hx c).toNat by unfold hx at h ⊢;omega)).2.2;have:dg.length=16:=rfl;omega
def gB(s:Tx)(i:Nat):Int:=hx (s.getD i 0)
def bAt(s:Tx)(k j:Nat):Int:=if 2*j+1<k then 16*gB s (2*j)+gB s (2*j+1) else if 2*j<k then gB s (2*j) else 0
