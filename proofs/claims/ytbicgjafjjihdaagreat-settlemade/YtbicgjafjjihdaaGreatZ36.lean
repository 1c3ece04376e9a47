/- Part. -/
import Derived.Test.YtbicgjafjjihdaaGreatZ34
import Derived.Test.YtbicgjafjjihdaaGreatZ35
set_option maxHeartbeats 16000000
set_option maxRecDepth 100000
namespace Go.Proofs.YtbicgjafjjihdaaGreat
section
open Go.RowKit Go.ChangeMaps
def oW (w:World) (P:Nat) (v0 v1 v2 v3 v4 v5:Value):World:=(((((w.setCell ⟨P,0,none⟩ (v0)).setCell ⟨P,1,none⟩ (v1)).setCell ⟨P,2,none⟩ (v2)).setCell ⟨P,3,none⟩ (v3)).setCell ⟨P,4,none⟩ (v4)).setCell ⟨P,5,none⟩ (v5)
theorem ou (w:World) (P:Nat) (v0 v1 v2 v3 v4 v5:Value):w.grownBy (oW w P v0 v1 v2 v3 v4 v5) (some P):=al (al (al (al (al (al (ar w _) _ _) _ _) _ _) _ _) _ _) _ _
theorem uw {w:World} {P:Nat} {cs:Array Value} {t:TypeId} (h:Bx w P cs t) (hs:cs.size=6) (v0 v1 v2 v3 v4 v5:Value):Bx (oW w P v0 v1 v2 v3 v4 v5) P #[v0,v1,v2,v3,v4,v5] t:=by
 have h2:=(((((h.set 0 v0).set 1 v1).set 2 v2).set 3 v3).set 4 v4).set 5 v5;have e:((((((cs.setIfInBounds 0 v0).setIfInBounds 1 v1).setIfInBounds 2 v2).setIfInBounds 3 v3).setIfInBounds 4 v4).setIfInBounds 5 v5)=#[v0,v1,v2,v3,v4,v5]:=by
  apply Array.ext_getElem?;intro i
  match i with
  | 0 | 1 | 2 | 3 | 4 | 5 => simp [hs]
  | i + 6 =>
   rw[Array.getElem?_eq_none (by simp[hs]),Array.getElem?_eq_none (by simp)]
 rw[e] at h2;exact h2
structure OtB (B S:Nat→Prop) (w w':World) (O n:Nat) (ae:List (List B8)) (o:Of_) (N:Nat→Prop):Prop where
 new:∀ b,N b→w.heap.size≤b
 mu:Mut (fun b=>S b∨N b) w'
 ot:OtW (fun b=>B b∨N b) (fun b=>S b∨N b) w' O n ae o
 ext:Ex B w w'
theorem pU (B S:Nat→Prop) (O n:Nat) (ae:List (List B8)) (w:World) (hm:Mut S w) (g:Nat) (cs:Array Value) (hx:Bx w O cs 102) (hc0:cs[0]?=some (.pointer (some ⟨g,0,none⟩))) (hc1:cs[1]?=some (.int .i64 (n:Int))) (hcs:cs.size=6) (bk sb:Nat) (bl:List B8) (hbl:ae[bk]?=some bl) (hnd:Nd S w g n bl (bk:Int) (sb:Int)) (aO:B O) (sub:∀ b,B b→S b) :
 Calls Tryz.prog 32 #[.pointer (some ⟨O,0,none⟩)] w fun e w'=>e=.returned .nilIface∧Hid (∃ N,OtB B S w w' O n ae ⟨bk,sb,true,2147483647,[],[]⟩ N):=by
 have x0:w.cell? ⟨O,0,none⟩=some (.pointer (some ⟨g,0,none⟩)):=(hx.cell 0).trans hc0;have x1:w.cell? ⟨O,1,none⟩=some (.int .i64 (n:Int)):=(hx.cell 1).trans hc1;have HX:=aa hx;have HM:=aa hm;have HCS:=aa hcs;have HBL:=aa hbl;have HND:=aa hnd;clear hx hm hc0 hc1 hcs hbl hnd;go_enter Tryz.func32,Tryz.ntmps32;go_wp2_with fail;refine(oC S g n bl (bk:Int) (sb:Int) w HM.o HND.o).mono ?_;rintro e w1 ⟨g',rfl,N1,E1⟩;clear x0 x1;obtain⟨W2,hW2⟩:∃ W2:World,Hid (W2=w1.alloc (.cells #[.pointer (some ⟨g',0,none⟩),.int .i64 (n:Int)] 86)):=⟨_,rfl⟩
 have B2:=bxA hW2;have D2:=beA hW2;have N2:=aa (N1.o.later D2.o);have F2:=aa (show Below w.heap.size w W2 from E1.o.trans (D2.o.mono E1.o.size));go_upto_region 2 with fail
 rw[←hW2.o];obtain⟨b0,b1⟩:=B2.o.pair;go_upto_region 4 with fail
 go_wp2_with fail;refine(fj _ g' n bl (bk:Int) (sb:Int) W2 N2.o.2.2).mono ?_;rintro e w3 ⟨rfl,E3⟩;have B3:=aa (B2.o.later E3.o B2.o.lt);have N3:=aa (N2.o.later E3.o);have F3:=aa (show Below w.heap.size w w3 from F2.o.trans (E3.o.mono F2.o.size));clear b0 b1;obtain⟨b0,b1⟩:=B3.o.pair;have X3:=aa (HX.o.later F3.o HX.o.lt);obtain⟨W7,hW7⟩:∃ W7:World,Hid (W7=oW w3 O (.pointer (some ⟨g',0,none⟩)) (.int .i64 (n:Int)) (.int .i64 (sb:Int)) (.int .i64 2147483647) (.slice none 0 0) (.slice none 0 0)):=⟨_,rfl⟩
 have G7:=aa (show w3.grownBy W7 (some O) by rw[hW7.o];exact ou _ _ _ _ _ _ _ _);have Z7:=aa (Ex.one G7.o);have X7:=aa (show Obx W7 O g' n (sb:Int) 2147483647 none 0 0 none 0 0 by rw[hW7.o];exact uw X3.o HCS.o _ _ _ _ _ _);have hOw:O<w.heap.size:=HX.o.lt;have hgw:w.heap.size≤g':=N1.o.1;have hgO:g'≠O:=by omega
 have M7:=aa (N3.o.2.1.dY Z7.o X7.o fW);have V7:=aa (N3.o.2.2.ext Z7.o (fun b hb=>.inl (by rw[hb];exact sub _ aO)) hgO);have y:=X3.o.frozen;have hPc:∀ j,j<6→∃ v,w3.cell? ⟨O,j,none⟩=some v:=fun j hj=>⟨_,(X3.o.cell j).trans (Array.getElem?_eq_getElem (by rw[HCS.o];exact hj))⟩
 obtain⟨o0,p0⟩:=hPc 0 (by omega);obtain⟨o1,p1⟩:=hPc 1 (by omega);obtain⟨o2,p2⟩:=hPc 2 (by omega);obtain⟨o3,p3⟩:=hPc 3 (by omega);obtain⟨o4,p4⟩:=hPc 4 (by omega);obtain⟨o5,p5⟩:=hPc 5 (by omega);unfold oW at hW7;go_upto_region 7 with fail
 go_upto_region 8 with fail
 rw[←hW7.o];clear b0 b1 y p0 p1 p2 p3 p4 p5;go_wp2_with fail;have E8:=aa (show Ex B w W7 from(Ex.below F3.o).chain Z7.o (fun b _ e=>by rw[e];exact aO));exact bodyPost_ret (v:=.nilIface) (by simp[results,Tryz.results32,go_sem]) rfl ⟨rfl,aa ⟨fun b=>b=g',⟨fun b hb=>by omega,M7.o,⟨g',none,0,0,none,0,0,X7.o,⟨⟨bl,HBL.o,V7.o⟩,Ino.nil _ _,FG _,BLo.nil _ _,FG _,rfl⟩,.inl aO,.inr rfl,fun b hb=>by
  rcases hb with hb|hb
  ·exact .inl (sub b hb)
  ·exact .inr hb⟩,E8.o⟩⟩⟩
theorem sy (S:Nat→Prop) (n:Nat) (w:World) (hm:Mut S w) (h1:1≤n) (h2:n≤32) :
 Calls Tryz.prog 22 #[.int .i64 (n:Int)] w fun e w'=>∃ O,e=.returned (.tuple #[.pointer (some ⟨O,0,none⟩),.nilIface])∧Hid (∃ N:Nat→Prop,(∀ b,N b→w.heap.size≤b)∧Mut (fun b=>S b∨N b) w'∧OtW N (fun b=>S b∨N b) w' O n [List.replicate n zB] ⟨0,0,true,2147483647,[],[]⟩)∧Hid (Below w.heap.size w w'):=by
 have HM:=aa hm;clear hm;go_enter Tryz.func22,Tryz.ntmps22;go_wp2_with fail;refine(nP S n w HM.o h1 h2).mono ?_;rintro e w1 ⟨g,rfl,N1,E1⟩;obtain⟨W2,hW2⟩:∃ W2:World,Hid (W2=w1.alloc (.cells #[.pointer (some ⟨g,0,none⟩),.int .i64 (n:Int)] 86)):=⟨_,rfl⟩
 have B2:=bxA hW2;have D2:=beA hW2;go_upto_region 2 with fail
 rw[←hW2.o];obtain⟨b0,b1⟩:=B2.o.pair;go_upto_region 4 with fail
 obtain⟨W3,hW3⟩:∃ W3:World,Hid (W3=W2.alloc (.cells #[.pointer (some ⟨g,0,none⟩),.int .i64 (n:Int),.int .i64 0,.int .i64 0,.slice none 0 0,.slice none 0 0] 102)):=⟨_,rfl⟩
 have D3:=beA hW3;have X3:=bxA hW3;obtain⟨P,hP⟩:∃ P:Nat,Hid (P=W2.heap.size):=⟨_,rfl⟩
 rw[←hP.o] at X3;have N3:=aa ((N1.o.later D2.o).later D3.o);have F3:=aa (show Below w.heap.size w W3 from(E1.o.trans (D2.o.mono E1.o.size)).trans (D3.o.mono (FM E1.o.size D2.o.size)));have hPl:w.heap.size≤P:=by have h3:=hP.o;have h4:=E1.o.size;have h5:=D2.o.size;omega
 have hgl:w.heap.size≤g:=N1.o.1;have hSS:(fun b=>(S b∨b=g)∨b=P)=(fun b=>S b∨(b=g∨b=P)):=funext fun b=>propext or_assoc
 have M3:=aa (show Mut (fun b=>S b∨(b=g∨b=P)) W3 by rw[←hSS];exact N3.o.2.1.add X3.o (dA _ rfl));have V3:=aa (show Nd (fun b=>S b∨(b=g∨b=P)) W3 g n (List.replicate n zB) ((0:Nat):Int) ((0:Nat):Int) by
  rw[←hSS];have h3:=(N1.o.2.2.later D2.o).wd (S':=fun b=>(S b∨b=g)∨b=P) ((Wd.refl _ _).add (by have h4:=hP.o;omega)) (.inl (.inr rfl));exact h3.later D3.o)
 go_upto_region 5 with fail
 rw[←hW3.o,←hP.o];clear b0 b1;go_wp2_with fail;refine(pU (fun b=>b=g∨b=P) (fun b=>S b∨(b=g∨b=P)) P n [List.replicate n zB] W3 M3.o g _ X3.o rfl rfl rfl 0 0 (List.replicate n zB) rfl V3.o (.inr rfl) (fun b hb=>.inr hb)).mono ?_;rintro e w4 ⟨rfl,P4⟩;go_wp2_with fail;obtain⟨N,h3,h4,h5,h6⟩:=P4.o;have hT:(fun b=>(S b∨(b=g∨b=P))∨N b)=(fun b=>S b∨((b=g∨b=P)∨N b)):=funext fun b=>propext or_assoc
 rw[hT] at h4 h5;have hbe:Below w.heap.size w w4:=F3.o.trans ((h6.toBelow_of (B:=w.heap.size) F3.o.size (fun b hb=>by
  rcases hb with hb|hb<;>omega)))
 exact bodyPost_ret (v:=.tuple #[.pointer (some ⟨P,0,none⟩),.nilIface]) (by simp[results,Tryz.results22,go_sem]) rfl ⟨P,rfl,aa ⟨fun b=>(b=g∨b=P)∨N b,fun b hb=>by
  rcases hb with (hb|hb)|hb
  ·omega
  ·omega
  ·exact FM F3.o.size (h3 b hb),h4,h5⟩,aa hbe⟩
theorem Mx.Bb {k x:Int} (hk:0≤k∧k≤15) (hx:0≤x∧x≤2147483647):Mx.may k [x] 0=0:=by
 unfold Mx.may;rw[if_neg (by omega),if_neg (by simp),if_neg];simp[Mx.bw];omega
theorem Mx.wj {k x y:Int} (hk:0≤k∧k≤15) (hx:0≤x∧x≤2147483647) (hy:0≤y∧y≤2147483647):Mx.may k [x,y] 0=0:=by
 unfold Mx.may;rw[if_neg (by omega),if_neg (by simp),if_neg];simp[Mx.bw];omega
end
section
open Go.RowKit Go.ChangeMaps
def ep (o:Of_) (s:Nat):Of_:=if o.sb<s then ⟨o.back,s,false,0,[],[]⟩ else o
def eM (o:Of_) (s:Nat):Option (List Int):=if s<o.sb then none else if o.sb<s then some (Mx.bd 3 [(s:Int),(o.back:Int)] 0 []) else if o.aN=true then some (Mx.bd 4 [(s:Int)] 0 []) else some (Mx.bd 3 [(s:Int),(o.back:Int)] 0 [])
theorem OtD.step {B S:Nat→Prop} {w v w':World} {O n:Nat} {ae:List (List B8)} {o:Of_} (h:OtD B S w v O n ae o) (hb:Below v.heap.size v w'):OtD B S w w' O n ae o:=⟨h.mu.later hb,h.ot.later hb,h.ext.trans (Ex.below hb)⟩
theorem tO (B S:Nat→Prop) (O n:Nat) (ae:List (List B8)) (o:Of_) (w:World) (hm:Mut S w) (ho:OtW B S w O n ae o) (s:Nat) (h:s<o.sb) :
 Calls Tryz.prog 86 #[.pointer (some ⟨O,0,none⟩),.int .i64 (s:Int)] w fun e w'=>∃ v,e=.returned (.tuple #[v,.nilIface])∧Hid (OtD B S w w' O n ae (ep o s))∧Hid (cU S w' v (eM o s)):=by
 have e1:ep o s=o:=by unfold ep;rw[if_neg (by omega)]
 have e2:eM o s=none:=by unfold eM;rw[if_pos h]
 rw[e1,e2];have HM:=aa hm;have HO:=aa ho;obtain⟨g,na,nn,nc,ha,hn,hc,X⟩:=ho;obtain⟨x0,x1,x2,x3,x4,x5⟩:=X.bx.cells;have hd:decide ((s:Int)<(o.sb:Int))=true:=by simpa using h
 have hd2:decide (s<o.sb)=true:=by simpa using h
 clear X hm h e1 e2 x0 x1 x3 x4 x5;go_enter Tryz.func86,Tryz.ntmps86;go_wp2_with fail;exact bodyPost_ret (v:=.tuple #[.slice none 0 0,.nilIface]) (by simp[results,Tryz.results86,go_sem]) rfl ⟨_,rfl,aa (OtD.same HM.o HO.o (Below.refl _ _)),aa rfl⟩
theorem wF (B S:Nat→Prop) (O n:Nat) (ae:List (List B8)) (o:Of_) (w:World) (hm:Mut S w) (ho:OtW B S w O n ae o) (s:Nat) (h:s=o.sb) (hf:o.aN=true) (hs:(s:Int)≤2147483647) (_hb:(o.back:Int)≤2147483647) :
 Calls Tryz.prog 86 #[.pointer (some ⟨O,0,none⟩),.int .i64 (s:Int)] w fun e w'=>∃ v,e=.returned (.tuple #[v,.nilIface])∧Hid (OtD B S w w' O n ae (ep o s))∧Hid (cU S w' v (eM o s)):=by
 have e1:ep o s=o:=by unfold ep;rw[if_neg (by omega)]
 have e2:eM o s=some (Mx.bd 4 [(s:Int)] 0 []):=by unfold eM;rw[if_neg (by omega),if_neg (by omega),if_pos hf]
 rw[e1,e2];have HM:=aa hm;have HO:=aa ho;obtain⟨g,na,nn,nc,ha,hn,hc,X⟩:=ho;obtain⟨x0,x1,x2,x3,x4,x5⟩:=X.bx.cells;obtain⟨bl,hbl,hnd⟩:=X.r.nd;have HND:=aa hnd;have hw:((o.want:Int)==2147483647)=true:=by
  have h1:=X.r.fg;rw[hf] at h1;have h2:=of_decide_eq_true h1.symm;simp;omega
 rw[←h] at x2;have HX:=aa X;clear X hm hbl hnd h hf e1 e2 x1 x4 x5;go_enter Tryz.func86,Tryz.ntmps86;go_wp2_with fail;refine(fj S g n bl _ _ w HND.o).mono ?_;rintro e w1 ⟨rfl,E1⟩;have X1:=aa (HX.o.later E1.o);have y2:=(E1.o.cell (p:=⟨O,2,none⟩) (Bx.lt HX.o.bx)).trans x2;have y3:=X1.o.bx.cells.2.2.2.1;have OD:=aa (OtD.same HM.o HO.o E1.o);clear x0 x2 x3;go_wp2_with fail;refine(eY O (o.want:Int) w1 y3 true hw).mono ?_;rintro e wz ⟨rfl,hz⟩;obtain rfl:=hz.symm;clear hz y2 y3 hw;obtain⟨W5,hW5⟩:∃ W5:World,Hid (W5=w1.alloc (.cells #[.int .i64 (s:Int)] 3)):=⟨_,rfl⟩
 have D5:=beA hW5;have I5:=aa (show ay W5 (some ⟨w1.heap.size,0,none⟩) 1 [(s:Int)] by rw[hW5.o];exact jb w1 [(s:Int)] _ (by simp) _ (by simp));go_wp2_with fail;rw[←hW5.o];refine(jc 4 (some ⟨w1.heap.size,0,none⟩) 1 1 [(s:Int)] W5 I5.o (Mx.Bb (k:=4) (by omega) ⟨by omega,by omega⟩)).mono ?_;rintro e w6 ⟨v,rfl,O6,E6⟩;have F6:=aa (show Below w1.heap.size w1 w6 from D5.o.trans (E6.o.mono D5.o.size));go_wp2_with fail;exact bodyPost_ret (v:=.tuple #[v,.nilIface]) (by simp[results,Tryz.results86,go_sem]) rfl ⟨v,rfl,aa (OtD.step OD.o F6.o),aa (cU.of O6.o (OD.o.mu.later D5.o) (FG _) (dM _ _ _ _) (eQ (fS w) (Mx.Bb (k:=4) (by omega) ⟨by omega,by omega⟩)))⟩
theorem wG (B S:Nat→Prop) (O n:Nat) (ae:List (List B8)) (o:Of_) (w:World) (hm:Mut S w) (ho:OtW B S w O n ae o) (s:Nat) (h:s=o.sb) (hf:o.aN=false) (hs:(s:Int)≤2147483647) (hb:(o.back:Int)≤2147483647) :
 Calls Tryz.prog 86 #[.pointer (some ⟨O,0,none⟩),.int .i64 (s:Int)] w fun e w'=>∃ v,e=.returned (.tuple #[v,.nilIface])∧Hid (OtD B S w w' O n ae (ep o s))∧Hid (cU S w' v (eM o s)):=by
 have e1:ep o s=o:=by unfold ep;rw[if_neg (by omega)]
 have e2:eM o s=some (Mx.bd 3 [(s:Int),(o.back:Int)] 0 []):=by unfold eM;rw[if_neg (by omega),if_neg (by omega),if_neg (by simp[hf])]
 rw[e1,e2];have HM:=aa hm;have HO:=aa ho;obtain⟨g,na,nn,nc,ha,hn,hc,X⟩:=ho;obtain⟨x0,x1,x2,x3,x4,x5⟩:=X.bx.cells;obtain⟨bl,hbl,hnd⟩:=X.r.nd;have HND:=aa hnd;have hw:((o.want:Int)==2147483647)=false:=by
  have h1:=X.r.fg;rw[hf] at h1;have h2:=of_decide_eq_false h1.symm;simp;omega
 rw[←h] at x2;have HX:=aa X;clear X hm hbl hnd h hf e1 e2 x1 x4 x5;go_enter Tryz.func86,Tryz.ntmps86;go_wp2_with fail;refine(fj S g n bl _ _ w HND.o).mono ?_;rintro e w1 ⟨rfl,E1⟩;have X1:=aa (HX.o.later E1.o);have y2:=(E1.o.cell (p:=⟨O,2,none⟩) (Bx.lt HX.o.bx)).trans x2;have y3:=X1.o.bx.cells.2.2.2.1;have OD:=aa (OtD.same HM.o HO.o E1.o);clear x0 x2 x3;go_wp2_with fail;refine(eY O (o.want:Int) w1 y3 false hw).mono ?_;rintro e wz ⟨rfl,hz⟩;obtain rfl:=hz.symm;clear hz y2 y3 hw;obtain⟨W5,hW5⟩:∃ W5:World,Hid (W5=w1.alloc (.cells #[.int .i64 (s:Int),.int .i64 (o.back:Int)] 3)):=⟨_,rfl⟩
 have D5:=beA hW5;have I5:=aa (show ay W5 (some ⟨w1.heap.size,0,none⟩) 2 [(s:Int),(o.back:Int)] by rw[hW5.o];exact jb w1 [(s:Int),(o.back:Int)] _ (by simp) _ (by simp));go_wp2_with fail;rw[←hW5.o];refine(jc 3 (some ⟨w1.heap.size,0,none⟩) 2 2 [(s:Int),(o.back:Int)] W5 I5.o (Mx.wj (k:=3) (by omega) ⟨by omega,by omega⟩ ⟨by omega,by omega⟩)).mono ?_;rintro e w6 ⟨v,rfl,O6,E6⟩;have F6:=aa (show Below w1.heap.size w1 w6 from D5.o.trans (E6.o.mono D5.o.size));go_wp2_with fail;exact bodyPost_ret (v:=.tuple #[v,.nilIface]) (by simp[results,Tryz.results86,go_sem]) rfl ⟨v,rfl,aa (OtD.step OD.o F6.o),aa (cU.of O6.o (OD.o.mu.later D5.o) (FG _) (dM _ _ _ _) (eQ (fS w) (Mx.wj (k:=3) (by omega) ⟨by omega,by omega⟩ ⟨by omega,by omega⟩)))⟩
theorem tP (B S:Nat→Prop) (O n:Nat) (ae:List (List B8)) (o:Of_) (w:World) (hm:Mut S w) (ho:OtW B S w O n ae o) (s:Nat) (h:o.sb<s) (hs:(s:Int)≤2147483647) (hb:(o.back:Int)≤2147483647) :
 Calls Tryz.prog 86 #[.pointer (some ⟨O,0,none⟩),.int .i64 (s:Int)] w fun e w'=>∃ v,e=.returned (.tuple #[v,.nilIface])∧Hid (OtD B S w w' O n ae (ep o s))∧Hid (cU S w' v (eM o s)):=by
 have e1:ep o s=⟨o.back,s,false,0,[],[]⟩:=by unfold ep;rw[if_pos h]
 have e2:eM o s=some (Mx.bd 3 [(s:Int),(o.back:Int)] 0 []):=by unfold eM;rw[if_neg (by omega),if_pos h]
 rw[e1,e2];have HM:=aa hm;obtain⟨g,na,nn,nc,ha,hn,hc,X⟩:=ho;obtain⟨x0,x1,x2,x3,x4,x5⟩:=X.bx.cells;obtain⟨bl,hbl,hnd⟩:=X.r.nd;have HND:=aa hnd;have HBL:=aa hbl;have HX:=aa X;have NE:=aa X.ne;have hd1:decide ((s:Int)<(o.sb:Int))=false:=by simp;omega
 have hd2:decide (s<o.sb)=false:=by simp;omega
 have hd3:decide ((o.sb:Int)<(s:Int))=true:=by simp;omega
 have hd4:decide (o.sb<s)=true:=by simp;omega
 clear X hm hbl hnd h e1 e2 x1 x3 x4 x5;go_enter Tryz.func86,Tryz.ntmps86;go_wp2_with fail;refine(fj S g n bl _ _ w HND.o).mono ?_;rintro e w1 ⟨rfl,E1⟩;have X1:=aa (HX.o.later E1.o);obtain⟨y0,y1,y2,y3,y4,y5⟩:=X1.o.bx.cells;clear x0 x2 y1 y3 y4 y5;go_wp2_with fail;refine(iJ S g n bl _ _ w1 (HM.o.later E1.o) (HND.o.later E1.o) none 0 0 [] (PL.nil _) (fun _ h=>by simp at h) (Nat.zero_le _) (o.back:Int) (s:Int) (by omega) hb (by omega) hs).mono ?_;rintro e w2 ⟨rfl,N2,G2,M2⟩;have Z2:=aa (Ex.one G2.o);have X2:=aa (show Obx w2 O g n (o.sb:Int) (o.want:Int) na nn nc ha hn hc from Ex.bx Z2.o X1.o.bx NE.o);obtain⟨W3,hW3⟩:∃ W3:World,Hid (W3=oW w2 O (.pointer (some ⟨g,0,none⟩)) (.int .i64 (n:Int)) (.int .i64 (s:Int)) (.int .i64 0) (.slice none 0 0) (.slice none 0 0)):=⟨_,rfl⟩
 have G3:=aa (show w2.grownBy W3 (some O) by rw[hW3.o];exact ou _ _ _ _ _ _ _ _);have Z3:=aa (Ex.one G3.o);have X3:=aa (show Obx W3 O g n (s:Int) 0 none 0 0 none 0 0 by rw[hW3.o];exact uw X2.o rfl _ _ _ _ _ _);have M3:=aa (M2.o.dY Z3.o X3.o fW);have V3:=aa (N2.o.ext Z3.o (fun b hb=>by rw[hb];exact HX.o.sub _ HX.o.aO) (fun e=>NE.o e.symm));have OD:=aa (show OtD B S w W3 O n ae ⟨o.back,s,false,0,[],[]⟩ from⟨M3.o,⟨g,none,0,0,none,0,0,X3.o,⟨⟨bl,HBL.o,V3.o⟩,Ino.nil _ _,FG _,BLo.nil _ _,FG _,rfl⟩,HX.o.aO,HX.o.ag,HX.o.sub⟩,((Ex.below E1.o).chain Z2.o (fun b _ e=>by rw[e];exact HX.o.ag)).chain Z3.o (fun b _ e=>by rw[e];exact HX.o.aO)⟩);clear y0 y2;obtain⟨x0,x1,x2,x3,x4,x5⟩:=X2.o.cells;have y:=Bx.frozen X2.o;unfold oW at hW3;go_upto_region 10 with fail
 go_upto_region 11 with fail
 rw[←hW3.o];clear x0 x1 x2 x3 x4 x5 y;have y3:=X3.o.cells.2.2.2.1;go_wp2_with fail;refine(eY O 0 W3 y3 false (by decide)).mono ?_;rintro e wz ⟨rfl,hz⟩;obtain rfl:=hz.symm;clear hz y3;obtain⟨W5,hW5⟩:∃ W5:World,Hid (W5=W3.alloc (.cells #[.int .i64 (s:Int),.int .i64 (o.back:Int)] 3)):=⟨_,rfl⟩
 have D5:=beA hW5;have I5:=aa (show ay W5 (some ⟨W3.heap.size,0,none⟩) 2 [(s:Int),(o.back:Int)] by rw[hW5.o];exact jb W3 [(s:Int),(o.back:Int)] _ (by simp) _ (by simp));go_wp2_with fail;rw[←hW5.o];refine(jc 3 (some ⟨W3.heap.size,0,none⟩) 2 2 [(s:Int),(o.back:Int)] W5 I5.o (Mx.wj (k:=3) (by omega) ⟨by omega,by omega⟩ ⟨by omega,by omega⟩)).mono ?_;rintro e w6 ⟨v,rfl,O6,E6⟩;have F6:=aa (show Below W3.heap.size W3 w6 from D5.o.trans (E6.o.mono D5.o.size));go_wp2_with fail;exact bodyPost_ret (v:=.tuple #[v,.nilIface]) (by simp[results,Tryz.results86,go_sem]) rfl ⟨v,rfl,aa (OtD.step OD.o F6.o),aa (cU.of O6.o (OD.o.mu.later D5.o) (FG _) (dM _ _ _ _) (eQ (fS w) (Mx.wj (k:=3) (by omega) ⟨by omega,by omega⟩ ⟨by omega,by omega⟩)))⟩
theorem yX (B S:Nat→Prop) (O n:Nat) (ae:List (List B8)) (o:Of_) (w:World) (hm:Mut S w) (ho:OtW B S w O n ae o) (s:Nat) (hs:(s:Int)≤2147483647) (hb:(o.back:Int)≤2147483647) :
 Calls Tryz.prog 86 #[.pointer (some ⟨O,0,none⟩),.int .i64 (s:Int)] w fun e w'=>∃ v,e=.returned (.tuple #[v,.nilIface])∧Hid (OtD B S w w' O n ae (ep o s))∧Hid (cU S w' v (eM o s)):=by
 rcases Nat.lt_trichotomy s o.sb with h|h|h
 ·exact tO B S O n ae o w hm ho s h
 ·cases hf:o.aN with
  | true => exact wF B S O n ae o w hm ho s h hf hs hb
  | false => exact wG B S O n ae o w hm ho s h hf hs hb
 ·exact tP B S O n ae o w hm ho s h hs hb
end
section
open Go.RowKit Go.ChangeMaps
theorem wA (B S:Nat→Prop) (O n:Nat) (ae:List (List B8)) (o:Of_) (w:World) (ho:OtW B S w O n ae o) (frm:Int) (to_:Nat) (qa:Option Addr) (qn qc:Nat) (ht:o.back<to_) (hf:frm=0) (hn32:n≤32) :
 Calls Tryz.prog 152 #[.pointer (some ⟨O,0,none⟩),.agg #[.int .i64 frm,.int .i64 (to_:Int),.slice qa qn qc]] w fun e w'=>∃ p,e=.returned (.tuple #[.slice (some ⟨p,0,none⟩) n n,.nilIface])∧Hid (au w' w.heap.size (.slice (some ⟨p,0,none⟩) n n) (List.replicate n zB))∧Hid (Below w.heap.size w w'):=by
 obtain⟨g,na,nn,nc,ha,hn,hc,X⟩:=ho;obtain⟨bl',hbl',hnd⟩:=X.r.nd;obtain⟨W0,hW0⟩:∃ W0:World,Hid (W0=w.alloc (.cells #[.int .i64 frm,.int .i64 (to_:Int),.slice qa qn qc] 183)):=⟨_,rfl⟩
 have B0:=bxA hW0;have D0:=beA hW0;have HX:=aa (X.later D0.o);have HND:=aa (hnd.later D0.o);subst hf;clear hbl';obtain⟨C,hC,HC⟩:=fJ n (by omega);obtain⟨x0,x1,x2,x3,x4,x5⟩:=HX.o.bx.cells;clear X hnd x2 x3 x4 x5;have hd1:decide ((to_:Int)≤(o.back:Int))=false:=by simp;omega
 have hd2:decide (to_≤o.back)=false:=by simp;omega
 go_enter Tryz.func152,Tryz.ntmps152;go_upto_region 1 with fail
 rw[←hW0.o];go_wp2_with fail;refine(fj S g n _ _ _ W0 HND.o).mono ?_;rintro e w1 ⟨rfl,E1⟩;have B1:=aa (B0.o.later E1.o B0.o.lt);have D1:=aa (D0.o.trans (E1.o.mono D0.o.size));have X1:=aa (HX.o.later E1.o);obtain⟨b0,b1,b2⟩:=B1.o.three;clear x0 x1;obtain⟨x0,x1,x2,x3,x4,x5⟩:=X1.o.bx.cells;clear x2 x3 x4 x5;have OF:=aa (HC.o w1 w.heap.size D1.o.size);have BF:=aa (show Below w.heap.size w (w1.alloc (.cells C 25)) from D1.o.alloc D1.o.size _);go_wp2_with fail;exact bodyPost_ret (v:=.tuple #[.slice (some ⟨w1.heap.size,0,none⟩) n n,.nilIface]) (by simp[results,Tryz.results152,go_sem]) rfl ⟨_,rfl,OF,BF⟩
theorem wy (B S:Nat→Prop) (O n:Nat) (ae:List (List B8)) (o:Of_) (w:World) (ho:OtW B S w O n ae o) (frm:Int) (to_:Nat) (qa:Option Addr) (qn qc:Nat) (ht:o.back<to_) (hf:frm=(o.back:Int)) (h0:frm≠0) (bl:List B8) (hbl:ae[o.back]?=some bl) :
 Calls Tryz.prog 152 #[.pointer (some ⟨O,0,none⟩),.agg #[.int .i64 frm,.int .i64 (to_:Int),.slice qa qn qc]] w fun e w'=>∃ p,e=.returned (.tuple #[.slice (some ⟨p,0,none⟩) n n,.nilIface])∧Hid (au w' w.heap.size (.slice (some ⟨p,0,none⟩) n n) bl)∧Hid (Below w.heap.size w w'):=by
 obtain⟨g,na,nn,nc,ha,hn,hc,X⟩:=ho;obtain⟨bl',hbl',hnd⟩:=X.r.nd;obtain⟨W0,hW0⟩:∃ W0:World,Hid (W0=w.alloc (.cells #[.int .i64 frm,.int .i64 (to_:Int),.slice qa qn qc] 183)):=⟨_,rfl⟩
 have B0:=bxA hW0;have D0:=beA hW0;have HX:=aa (X.later D0.o);have HND:=aa (hnd.later D0.o);have hbe:bl'=bl:=by rw[hbl] at hbl';exact(FC hbl').symm
 subst hbe;subst hf;have hz1:((o.back:Int)==0)=false:=by simpa using h0
 have hz2:(o.back==0)=false:=by simp;omega
 clear hbl' hbl h0;obtain⟨x0,x1,x2,x3,x4,x5⟩:=HX.o.bx.cells;clear X hnd x2 x3 x4 x5;have hd1:decide ((to_:Int)≤(o.back:Int))=false:=by simp;omega
 have hd2:decide (to_≤o.back)=false:=by simp;omega
 go_enter Tryz.func152,Tryz.ntmps152;go_upto_region 1 with fail
 rw[←hW0.o];go_wp2_with fail;refine(fj S g n _ _ _ W0 HND.o).mono ?_;rintro e w1 ⟨rfl,E1⟩;have B1:=aa (B0.o.later E1.o B0.o.lt);have D1:=aa (D0.o.trans (E1.o.mono D0.o.size));have X1:=aa (HX.o.later E1.o);obtain⟨b0,b1,b2⟩:=B1.o.three;clear x0 x1;obtain⟨x0,x1,x2,x3,x4,x5⟩:=X1.o.bx.cells;clear x2 x3 x4 x5;go_wp2_with fail;refine(lY S g n bl' _ _ w1 (HND.o.later E1.o)).mono ?_;rintro e w2 ⟨p,rfl,O2,E2⟩;have OF:=aa (show au w2 w.heap.size (.slice (some ⟨p,0,none⟩) n n) bl' from World.ownsRow.mono O2.o D1.o.size);have BF:=aa (D1.o.trans (E2.o.mono D1.o.size));go_wp2_with fail;exact bodyPost_ret (v:=.tuple #[.slice (some ⟨p,0,none⟩) n n,.nilIface]) (by simp[results,Tryz.results152,go_sem]) rfl ⟨_,rfl,OF,BF⟩
theorem Bl (B S:Nat→Prop) (O n:Nat) (ae:List (List B8)) (o:Of_) (w:World) (ho:OtW B S w O n ae o) (frm:Int) (to_:Nat) (qa:Option Addr) (qn qc:Nat) (ht:o.back<to_) (hn32:n≤32) (base:List B8) (hb:(frm=0∧base=List.replicate n zB)∨(frm=(o.back:Int)∧frm≠0∧ae[o.back]?=some base)) :
 Calls Tryz.prog 152 #[.pointer (some ⟨O,0,none⟩),.agg #[.int .i64 frm,.int .i64 (to_:Int),.slice qa qn qc]] w fun e w'=>∃ p,e=.returned (.tuple #[.slice (some ⟨p,0,none⟩) n n,.nilIface])∧Hid (au w' w.heap.size (.slice (some ⟨p,0,none⟩) n n) base)∧Hid (Below w.heap.size w w'):=by
 rcases hb with ⟨h1,rfl⟩|⟨h1,h2,h3⟩
 ·exact wA B S O n ae o w ho frm to_ qa qn qc ht h1 hn32
 ·exact wy B S O n ae o w ho frm to_ qa qn qc ht h1 h2 base h3
end
end Go.Proofs.YtbicgjafjjihdaaGreat
