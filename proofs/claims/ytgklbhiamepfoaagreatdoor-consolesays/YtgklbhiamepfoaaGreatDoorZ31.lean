import Derived.Lib.ItoaNum
import Derived.Lib.Join
import Derived.Test.YtgklbhiamepfoaaGreatDoorZ1
import Derived.Test.YtgklbhiamepfoaaGreatDoorZ30
set_option maxHeartbeats 16000000
set_option maxRecDepth 100000
namespace Go.Proofs.YtgklbhiamepfoaaGreatDoor
open Go.Proofs.Tryz Mx
namespace Mx
def bTo(s:Tx)(k:Nat):B8:=⟨bAt s k 0,bAt s k 1,bAt s k 2,bAt s k 3,bAt s k 4,bAt s k 5,bAt s k 6,bAt s k 7⟩
def blk(s:Tx):Option B8:=if s.length=16/\∀c∈s,0<=hx c then some (bTo s 16) else none
def ix(z:Int):Tx:=[dg.getD (z.toNat/16) 0,dg.getD (z.toNat%16) 0]
def fp(b:B8):Tx:=b.list.flatMap ix
structure Out where
 e:Int
 t:Tx
 n:Nat
 ds:List De
def er(e:Int):Tx:=101::114::114::111::114::32::Lib.itoa e
def Out.tx(o:Out):Tx:=if o.e=0 then o.t else er o.e
def hv(n:Nat)(ds:List De):Nat:=(aC n ds).1.length-1
def dY (n:Nat) (ds:List De):List B8:=(aC n ds).1.getD (hv n ds) []
def aS(n:Nat)(ds:List De)(x:De):Out:=
 if n=0 then⟨5,[],n,ds⟩ else if 300<=ds.length then⟨2,[],n,ds⟩ else if doE n x≠0 then⟨doE n x,[],n,ds⟩
 else⟨0,if x.kind=2 then fp (doD n (aC n ds).2 x) else Lib.itoa (hv n (ds++[x]):Nat),n,ds++[x]⟩
def aT(n:Nat)(ds:List De)(k:Int)(s:Tx):Out:=match num s with
 |none=>⟨3,[],n,ds⟩
 |some v=>aS n ds ⟨k,v,0,zB⟩
def top (l:List B8):Nat:=((levels (l.map bR)).getD ((levels (l.map bR)).length-1) []).getD 0 0
def settled (n:Nat) (ds:List De):Out:=if n=0 then ⟨5,[],n,ds⟩ else ⟨0,Lib.itoa (hv n ds:Nat)++32::Lib.decDigits (top (dY n ds)),n,ds⟩
def pkT (p:Pk):Tx:=Lib.join ([Lib.itoa p.at_,Lib.itoa p.kind,Lib.itoa p.from_]++if p.kind=3 then [fp p.d] else []) [32]
def cu (n:Nat) (ds:List De):Out:=if n=0 then ⟨5,[],n,ds⟩ else if 300<=ds.length then ⟨2,[],n,ds⟩
 else ⟨0,Lib.join ((pks (dY n ds) [] (bM (aC n ds).2)).map pkT) [124],n,ds⟩
def wds:List (Tx × Nat):=[([110,101,119],1),([119,114,105,116,101],2),([116,114,105,109],1),([114,101,97,100],1),([98,97,114,114,105,101,114],0),([116,105,99,107],0),([100,101,108,105,118,101,114],1),([108,111,115,101],1),([100,111,117,98,108,101],1),([99,114,97,115,104],1),([115,101,116,116,108,101],0),([112,108,97,110],0)]
def cmd (n:Nat) (ds:List De) (k:Nat) (a b:Tx):Out:=match k with
 | 0 => match num a with
  | none => ⟨3, [], n, ds⟩
  | some v => if v < 1 \/ 32 < v then ⟨1, [], n, ds⟩ else ⟨0, [111, 107], v, []⟩
 | 1 => match num a, blk b with
  | some v, some d => aS n ds ⟨0, v, 0, d⟩
  | _, _ => ⟨3, [], n, ds⟩
 | 4 => aS n ds ⟨3, 0, 0, zB⟩
 | 5 => aS n ds ⟨4, 0, 0, zB⟩
 | 9 => if a = [102, 105, 114, 115, 116] then aS n ds ⟨8, 0, 0, zB⟩ else if a = [111, 116, 104, 101, 114] then aS n ds ⟨9, 0, 0, zB⟩ else ⟨3, [], n, ds⟩
 | 10 => settled n ds
 | 11 => cu n ds
 | k + 1 => aT n ds k a
def fP (n:Nat) (ds:List De) (ws:List Tx):Out :=
 match wds.findIdx? (λx=>x.1==ws.headD []) with
 | some k => if ws.length = (wds.getD k ([], 0)).2 + 1 then cmd n ds k (ws.getD 1 []) (ws.getD 2 []) else ⟨0, [98, 97, 100], n, ds⟩
 | none => ⟨0, [98, 97, 100], n, ds⟩
