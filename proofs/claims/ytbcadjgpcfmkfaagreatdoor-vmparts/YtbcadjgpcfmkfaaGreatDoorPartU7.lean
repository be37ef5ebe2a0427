/- Spec; KSpec; KB; RB; VShape. -/
import Derived.Laws.OwnMore
import Derived.Deep.RegionHeld3
import Derived.Test.YtbcadjgpcfmkfaaGreatDoorPartU1
import Derived.Test.YtbcadjgpcfmkfaaGreatDoorPartU6
set_option maxHeartbeats 0
set_option maxRecDepth 100000
set_option linter.unusedSimpArgs false
namespace Go.Proofs.YtbcadjgpcfmkfaaGreatDoor
open Go Go.RowKit
section
structure WS where
 f:Bs->Bool
 n:Nat
def WS.empty:WS:=⟨fun _=>false,0⟩
def WS.add (W:WS) (k:Bs):WS:=⟨fun x=>decide (x=k)||W.f x,if W.f k then W.n else W.n+1⟩
def exE (F:Bs->Option Int) (nm:List Bs) (k:Int) (t:Bs) (n:Nat):Int:=
 if k=3 then(if nm.contains t then 0 else 6)
 else if k=11 then(match F t with|none=>6|some m=>if m=n then 0 else 5)
 else 0
def exW (k:Int) (t:Bs) (W:WS):WS:=if k=2 then W.add t else W
structure EW where
 e:Int
 W:WS
def EW.or (r:EW) (g:WS->EW):EW:=if r.e=0 then g r.W else r
mutual
def exC (F:Bs->Option Int) (nm:List Bs):Ex->WS->EW
 |.mk k _ t a=>fun W=>EW.or ⟨exE F nm k t a.length,exW k t W⟩ (Tq F nm a)
def Tq (F:Bs->Option Int) (nm:List Bs):List Ex->WS->EW
 |[]=>fun W=>⟨0,W⟩
 |x::l=>fun W=>(exC F nm x W).or (Tq F nm l)
end
mutual
def rF:Ex->Nat
 |.mk _ _ _ a=>1+iJ a
def iJ:List Ex->Nat
 |[]=>0
 |x::l=>rF x+iJ l
end
structure CR where
 e:Int
 nm:List Bs
 v:Int
 W:WS
def CR.or (r:CR) (g:CR->CR):CR:=if r.e=0 then g r else r
def stE (nm:List Bs) (v:Int) (k:Int) (t:Bs):Int:=
 if k=1 then(if nm.contains t then 7 else if 8<=v then 4 else 0)
 else if k=2 then(if nm.contains t then 0 else 6) else 0
def Ef (nm:List Bs) (k:Int) (t:Bs):List Bs:=if k=1 then nm++ [t] else nm
def abL (v:Int) (k:Int):Int:=if k=1 then v+1 else v
mutual
def stC (F:Bs->Option Int):St->List Bs->Int->WS->CR
 |.mk k t a x y=>fun nm v W=>
  CR.or ⟨(Tq F nm a W).e,nm,v,(Tq F nm a W).W⟩ fun r=>
  CR.or ⟨stE nm v k t,Ef nm k t,abL v k,r.W⟩ fun r=>
  CR.or (Ot F x r.nm r.v r.W) fun r2=>
  CR.or (Ot F y r.nm r2.v r2.W) fun r3=>⟨0,r.nm,r3.v,r3.W⟩
def Ot (F:Bs->Option Int):List St->List Bs->Int->WS->CR
 |[]=>fun nm v W=>⟨0,nm,v,W⟩
 |s::l=>fun nm v W=>(stC F s nm v W).or fun r=>Ot F l r.nm r.v r.W
end
mutual
def Ap:St->Nat
 |.mk _ _ a x y=>1+iJ a+jq x+jq y
def jq:List St->Nat
 |[]=>0
 |s::l=>Ap s+jq l
end
def dup:List Bs->Bool
 |[]=>false
 |x::l=>l.contains x||dup l
def uk:List Fn->(Bs->Option Int)->Int×(Bs->Option Int)
 |[],F=>(0,F)
 |f::l,F=>if(F f.t).isSome||dup f.p then(7,F) else if 4<f.p.length then(5,F) else uk l (fun x=>if x=f.t then some f.p.length else F x)
def vS (F:Bs->Option Int):List Fn->WS->EW
 |[],W=>⟨0,W⟩
 |f::l,W=>EW.or ⟨(Ot F f.b f.p f.p.length W).e,(Ot F f.b f.p f.p.length W).W⟩ (vS F l)
def WC (l:List Fn):Nat:=match l with|[]=>0|f::_=>f.p.length
def abM (l:List Fn):Int:=
 if l.length=0\/5<l.length then 5
 else if(uk l (fun _=>none)).1≠0 then(uk l (fun _=>none)).1
 else if WC l≠0 then 10
 else if(vS (uk l (fun _=>none)).2 l WS.empty).e≠0 then(vS (uk l (fun _=>none)).2 l WS.empty).e
 else if 16<(vS (uk l (fun _=>none)).2 l WS.empty).W.n then 4 else 0
inductive um:Ex->Prop
 |mk {k n:Int} {t:Bs} {a:List Ex} (h1:k=1\/k=2\/k=3\/k=9->a=[]) (h2:t.length<=1500) (h3:∀x∈a,um x):um (.mk k n t a)
inductive uo:St->Prop
 |mk {k:Int} {t:Bs} {a:List Ex} {x y:List St} (h1:k≠3->k≠4->x=[]) (h2:k≠3->y=[]) (h3:t.length<=1500) (h4:∀e∈a,um e) (h5:∀s∈x,uo s) (h6:∀s∈y,uo s):uo (.mk k t a x y)
structure Tt (f:Fn):Prop where
 t:f.t.length<=1500
 p:∀s∈f.p,s.length<=1500
 b:∀s∈f.b,uo s
def xB (l:List Fn):Nat:=(l.map fun f=>f.p.length+jq f.b).sum
theorem CS {x:Ex}:∀{l:List Ex},x∈l->rF x<=iJ l
 |y::l,h=>by
  unfold iJ;rcases List.mem_cons.1 h with rfl|h
  ·omega
  ·have:=CS h;omega
theorem vT {x:St}:∀{l:List St},x∈l->Ap x<=jq l
 |y::l,h=>by
  unfold jq;rcases List.mem_cons.1 h with rfl|h
  ·omega
  ·have:=vT h;omega
theorem KG (x:Ex):1<=rF x:=by cases x;unfold rF;omega
theorem Tu (x:St):1<=Ap x:=by cases x;unfold Ap;omega
end
section
structure In where
 op:Int
 a:Int
 b:Int
def GJ (ws:List Bs) (t:Bs):Nat:=ws.idxOf t
def GK (ws:List Bs) (t:Bs):List Bs:=if ws.contains t then ws else ws++ [t]
def rW (k:Int):Int:=if k=5 then 6 else if k=6 then 7 else if k=7 then 8 else if k=8 then 11 else if k=10 then 13 else 0
def qm (G E:Bs->Int) (k n:Int) (t:Bs) (len:Nat) (ws:List Bs):In:=
 if k=1 then⟨1,n,0⟩ else if k=2 then⟨2,GJ ws t,0⟩ else if k=3 then⟨3,E t,0⟩ else if k=9 then⟨12,0,0⟩ else if k=4 then⟨5,n,0⟩
 else if k=11 then⟨17,G t,len⟩ else⟨rW k,0,0⟩
def uY (k:Int) (t:Bs) (ws:List Bs):List Bs:=if k=2 then GK ws t else ws
structure XR where
 ins:List In
 ws:List Bs
mutual
def Ad (G E:Bs->Int):Ex->List Bs->XR
 |.mk k n t a=>fun ws=>⟨(aM G E a ws).ins++ [qm G E k n t a.length (aM G E a ws).ws],uY k t (aM G E a ws).ws⟩
def aM (G E:Bs->Int):List Ex->List Bs->XR
 |[]=>fun ws=>⟨[],ws⟩
 |x::l=>fun ws=>⟨(Ad G E x ws).ins++(aM G E l (Ad G E x ws).ws).ins,(aM G E l (Ad G E x ws).ws).ws⟩
end
mutual
def qo:Ex->Nat
 |.mk _ _ _ a=>max 1 (Aq 0 a)
def Aq:Nat->List Ex->Nat
 |_,[]=>0
 |i,x::l=>max (i+qo x) (Aq (i+1) l)
end
mutual
def KH:St->Nat
 |.mk _ _ a x y=>max (Aq 0 a) (max (gB x) (gB y))
def gB:List St->Nat
 |[]=>0
 |s::l=>max (KH s) (gB l)
end
def upd (E:Bs->Int) (t:Bs) (v:Int):Bs->Int:=fun x=>if x=t then v else E x
def stOp (k:Int):Int:=if k=5 then 14 else if k=6 then 18 else if k=7 then 9 else if k=8 then 10 else if k=9 then 19 else 0
structure KR where
 ins:List In
 E:Bs->Int
 v:Nat
 ws:List Bs
mutual
def nA (G:Bs->Int):St->(Bs->Int)->Nat->List Bs->Nat->KR
 |.mk k t a x y=>fun E v ws o=>
  if k=1 then⟨(aM G E a ws).ins++ [⟨4,v,0⟩],upd E t v,v+1,(aM G E a ws).ws⟩
  else if k=2 then⟨(aM G E a ws).ins++ [⟨4,E t,0⟩],E,v,(aM G E a ws).ws⟩
  else if k=3 then
   ⟨(aM G E a ws).ins++⟨16,((o+(aM G E a ws).ins.length+(dY G x E v (aM G E a ws).ws (o+(aM G E a ws).ins.length+1)).ins.length+2:Nat):Int),0⟩::((dY G x E v (aM G E a ws).ws (o+(aM G E a ws).ins.length+1)).ins++
    ⟨15,((o+(aM G E a ws).ins.length+(dY G x E v (aM G E a ws).ws (o+(aM G E a ws).ins.length+1)).ins.length+2+(dY G y E (dY G x E v (aM G E a ws).ws (o+(aM G E a ws).ins.length+1)).v (dY G x E v (aM G E a ws).ws (o+(aM G E a ws).ins.length+1)).ws (o+(aM G E a ws).ins.length+(dY G x E v (aM G E a ws).ws (o+(aM G E a ws).ins.length+1)).ins.length+2)).ins.length:Nat):Int),0⟩::(dY G y E (dY G x E v (aM G E a ws).ws (o+(aM G E a ws).ins.length+1)).v (dY G x E v (aM G E a ws).ws (o+(aM G E a ws).ins.length+1)).ws (o+(aM G E a ws).ins.length+(dY G x E v (aM G E a ws).ws (o+(aM G E a ws).ins.length+1)).ins.length+2)).ins),E,
    (dY G y E (dY G x E v (aM G E a ws).ws (o+(aM G E a ws).ins.length+1)).v (dY G x E v (aM G E a ws).ws (o+(aM G E a ws).ins.length+1)).ws (o+(aM G E a ws).ins.length+(dY G x E v (aM G E a ws).ws (o+(aM G E a ws).ins.length+1)).ins.length+2)).v,
    (dY G y E (dY G x E v (aM G E a ws).ws (o+(aM G E a ws).ins.length+1)).v (dY G x E v (aM G E a ws).ws (o+(aM G E a ws).ins.length+1)).ws (o+(aM G E a ws).ins.length+(dY G x E v (aM G E a ws).ws (o+(aM G E a ws).ins.length+1)).ins.length+2)).ws⟩
  else if k=4 then
   ⟨(aM G E a ws).ins++⟨16,((o+(aM G E a ws).ins.length+(dY G x E v (aM G E a ws).ws (o+(aM G E a ws).ins.length+1)).ins.length+2:Nat):Int),0⟩::((dY G x E v (aM G E a ws).ws (o+(aM G E a ws).ins.length+1)).ins++ [⟨15,o,0⟩]),E,
    (dY G x E v (aM G E a ws).ws (o+(aM G E a ws).ins.length+1)).v,(dY G x E v (aM G E a ws).ws (o+(aM G E a ws).ins.length+1)).ws⟩
  else⟨(aM G E a ws).ins++ [⟨stOp k,0,0⟩],E,v,(aM G E a ws).ws⟩
def dY (G:Bs->Int):List St->(Bs->Int)->Nat->List Bs->Nat->KR
 |[]=>fun E v ws _=>⟨[],E,v,ws⟩
 |s::l=>fun E v ws o=>
  ⟨(nA G s E v ws o).ins++(dY G l (nA G s E v ws o).E (nA G s E v ws o).v (nA G s E v ws o).ws (o+(nA G s E v ws o).ins.length)).ins,
   (dY G l (nA G s E v ws o).E (nA G s E v ws o).v (nA G s E v ws o).ws (o+(nA G s E v ws o).ins.length)).E,
   (dY G l (nA G s E v ws o).E (nA G s E v ws o).v (nA G s E v ws o).ws (o+(nA G s E v ws o).ins.length)).v,
   (dY G l (nA G s E v ws o).E (nA G s E v ws o).v (nA G s E v ws o).ws (o+(nA G s E v ws o).ins.length)).ws⟩
end
def rX:List Bs->Nat->(Bs->Int)->(Bs->Int)
 |[],_,E=>E
 |t::l,i,E=>rX l (i+1) (upd E t i)
structure Cd where
 np:Nat
 nv:Nat
 ins:List In
structure Pg where
 cs:List Cd
 ws:List Bs
def Bo (G:Bs->Int) (f:Fn) (ws:List Bs):KR:=dY G f.b (rX f.p 0 (fun _=>0)) f.p.length ws 0
def Sd (G:Bs->Int) (f:Fn) (ws:List Bs):List In:=(Bo G f ws).ins++ [⟨1,0,0⟩,⟨18,0,0⟩]
def CU (G:Bs->Int) (f:Fn) (ws:List Bs):Bool:=decide (200<(Sd G f ws).length)||decide (16<gB f.b)
def Bp (G:Bs->Int):List Fn->Pg->Pg×Int
 |[],P=>(P,0)
 |f::l,P=>if CU G f P.ws then(⟨[],[]⟩,4) else Bp G l ⟨P.cs++ [⟨f.p.length,(Bo G f P.ws).v,Sd G f P.ws⟩],(Bo G f P.ws).ws⟩
def GL:List Fn->Nat->(Bs->Int)->(Bs->Int)
 |[],_,G=>G
 |f::l,i,G=>GL l (i+1) (upd G f.t i)
def uZ (l:List Fn):Pg×Int:=Bp (GL l 0 (fun _=>0)) l ⟨[],[]⟩
theorem og (G E:Bs->Int) (ws:List Bs):aM G E [] ws=⟨[],ws⟩:=rfl
theorem jX (G E:Bs->Int) (x:Ex) (l:List Ex) (ws:List Bs):aM G E (x::l) ws=⟨(Ad G E x ws).ins++(aM G E l (Ad G E x ws).ws).ins,(aM G E l (Ad G E x ws).ws).ws⟩:=rfl
theorem CV (G E:Bs->Int) (k n:Int) (t:Bs) (a:List Ex) (ws:List Bs):Ad G E (.mk k n t a) ws=⟨(aM G E a ws).ins++ [qm G E k n t a.length (aM G E a ws).ws],uY k t (aM G E a ws).ws⟩:=rfl
theorem xC (G E:Bs->Int) (v:Nat) (ws:List Bs) (o:Nat):dY G [] E v ws o=⟨[],E,v,ws⟩:=rfl
theorem pM {G E:Bs->Int} {s:St} {l:List St} {v:Nat} {ws:List Bs} {o:Nat} {r q:KR} (h:nA G s E v ws o=r) (h2:dY G l r.E r.v r.ws (o+r.ins.length)=q):dY G (s::l) E v ws o=⟨r.ins++q.ins,q.E,q.v,q.ws⟩:=by
 subst h h2;rfl
theorem KI {G E:Bs->Int} {t:Bs} {a:List Ex} {x y:List St} {v:Nat} {ws:List Bs} {o:Nat} {A:XR} (h:aM G E a ws=A):nA G (.mk 1 t a x y) E v ws o=⟨A.ins++ [⟨4,v,0⟩],upd E t v,v+1,A.ws⟩:=by
 subst h;rw[nA];simp
theorem KJ {G E:Bs->Int} {t:Bs} {a:List Ex} {x y:List St} {v:Nat} {ws:List Bs} {o:Nat} {A:XR} (h:aM G E a ws=A):nA G (.mk 2 t a x y) E v ws o=⟨A.ins++ [⟨4,E t,0⟩],E,v,A.ws⟩:=by
 subst h;rw[nA];simp
theorem WE {G E:Bs->Int} {t:Bs} {a:List Ex} {x y:List St} {v:Nat} {ws:List Bs} {o:Nat} {A:XR} {X Y:KR} (h:aM G E a ws=A) (hx:dY G x E v A.ws (o+A.ins.length+1)=X) (hy:dY G y E X.v X.ws (o+A.ins.length+X.ins.length+2)=Y):
 nA G (.mk 3 t a x y) E v ws o=⟨A.ins++⟨16,((o+A.ins.length+X.ins.length+2:Nat):Int),0⟩::(X.ins++⟨15,((o+A.ins.length+X.ins.length+2+Y.ins.length:Nat):Int),0⟩::Y.ins),E,Y.v,Y.ws⟩:=by
 subst h hx hy;rw[nA];simp
theorem Ma {G E:Bs->Int} {t:Bs} {a:List Ex} {x y:List St} {v:Nat} {ws:List Bs} {o:Nat} {A:XR} {X:KR} (h:aM G E a ws=A) (hx:dY G x E v A.ws (o+A.ins.length+1)=X):
 nA G (.mk 4 t a x y) E v ws o=⟨A.ins++⟨16,((o+A.ins.length+X.ins.length+2:Nat):Int),0⟩::(X.ins++ [⟨15,o,0⟩]),E,X.v,X.ws⟩:=by
 subst h hx;rw[nA];simp
theorem Bq {G E:Bs->Int} {k:Int} {t:Bs} {a:List Ex} {x y:List St} {v:Nat} {ws:List Bs} {o:Nat} {A:XR} (h:aM G E a ws=A) (h1:k≠1) (h2:k≠2) (h3:k≠3) (h4:k≠4):
 nA G (.mk k t a x y) E v ws o=⟨A.ins++ [⟨stOp k,0,0⟩],E,v,A.ws⟩:=by
 subst h;rw[nA];simp[h1,h2,h3,h4]
mutual
theorem CW (G E:Bs->Int):∀(x:Ex) (ws:List Bs),(Ad G E x ws).ins.length=rF x
 |.mk k n t a,ws=>by rw[CV,rF];simp only[List.length_append,List.length_singleton,ko G E a ws];omega
theorem ko (G E:Bs->Int):∀(l:List Ex) (ws:List Bs),(aM G E l ws).ins.length=iJ l
 |[],ws=>by rw[og,iJ];rfl
 |x::l,ws=>by rw[jX,iJ];simp only[List.length_append,CW G E x,ko G E l]
end
theorem Tv (ws:List Bs) (t:Bs):(GK ws t).length<=ws.length+1:=by unfold GK;split<;>simp
mutual
theorem WG (G E:Bs->Int):∀(x:Ex) (ws:List Bs),(Ad G E x ws).ws.length<=ws.length+rF x
 |.mk k n t a,ws=>by
  rw[CV,rF];have:=mR G E a ws;unfold uY;dsimp only;split
  ·have:=Tv (aM G E a ws).ws t;omega
  ·omega
theorem mR (G E:Bs->Int):∀(l:List Ex) (ws:List Bs),(aM G E l ws).ws.length<=ws.length+iJ l
 |[],ws=>by rw[og,iJ];simp
 |x::l,ws=>by rw[jX,iJ];have:=WG G E x ws;have:=mR G E l (Ad G E x ws).ws;dsimp only;omega
end
structure KLe (r:KR) (v:Nat) (ws:List Bs) (n:Nat):Prop where
 i:r.ins.length<=2*n
 v:r.v<=v+n
 w:r.ws.length<=ws.length+n
mutual
theorem WH (G:Bs->Int):∀(s:St) (E:Bs->Int) (v:Nat) (ws:List Bs) (o:Nat),KLe (nA G s E v ws o) v ws (Ap s)
 |.mk k t a x y,E,v,ws,o=>by
  have hl:=ko G E a ws;have hw:=mR G E a ws;have hN:Ap (.mk k t a x y)=1+iJ a+jq x+jq y:=by rw[Ap]
  rw[hN]
  by_cases h1:k=1
  ·subst h1;rw[KI rfl];exact⟨by simp[hl];omega,by simp;omega,by simp only;omega⟩
  by_cases h2:k=2
  ·subst h2;rw[KJ rfl];exact⟨by simp[hl];omega,by simp,by simp only;omega⟩
  by_cases h3:k=3
  ·subst h3;rw[WE rfl rfl rfl];have hx:=pO G x E v (aM G E a ws).ws (o+(aM G E a ws).ins.length+1);have hy:=pO G y E (dY G x E v (aM G E a ws).ws (o+(aM G E a ws).ins.length+1)).v (dY G x E v (aM G E a ws).ws (o+(aM G E a ws).ins.length+1)).ws (o+(aM G E a ws).ins.length+(dY G x E v (aM G E a ws).ws (o+(aM G E a ws).ins.length+1)).ins.length+2);have a1:=hx.i;have a2:=hx.v;have a3:=hx.w;have b1:=hy.i;have b2:=hy.v;have b3:=hy.w;refine⟨?_,?_,?_⟩
   ·simp only[List.length_append,List.length_cons,hl] at*;omega
   ·simp only at*;omega
   ·simp only at*;omega
  by_cases h4:k=4
  ·subst h4;rw[Ma rfl rfl];have hx:=pO G x E v (aM G E a ws).ws (o+(aM G E a ws).ins.length+1);have a1:=hx.i;have a2:=hx.v;have a3:=hx.w;refine⟨?_,?_,?_⟩
   ·simp only[List.length_append,List.length_cons,List.length_nil,hl] at*;omega
   ·simp only at*;omega
   ·simp only at*;omega
  ·rw[Bq rfl h1 h2 h3 h4];exact⟨by simp[hl];omega,by simp,by simp only;omega⟩
theorem pO (G:Bs->Int):∀(l:List St) (E:Bs->Int) (v:Nat) (ws:List Bs) (o:Nat),KLe (dY G l E v ws o) v ws (jq l)
 |[],E,v,ws,o=>by rw[xC];exact⟨by simp,by simp,by simp⟩
 |s::l,E,v,ws,o=>by
  have h1:=WH G s E v ws o;have h2:=pO G l (nA G s E v ws o).E (nA G s E v ws o).v (nA G s E v ws o).ws (o+(nA G s E v ws o).ins.length);rw[pM rfl rfl,jq];have a1:=h1.i;have a2:=h1.v;have a3:=h1.w;have b1:=h2.i;have b2:=h2.v;have b3:=h2.w;refine⟨?_,?_,?_⟩
  ·simp only[List.length_append] at*;omega
  ·simp only at*;omega
  ·simp only at*;omega
end
mutual
def ZQ (H:Bs->Nat->Prop) (nm:List Bs):Ex->Prop
 |.mk k _ t a=>(k=3->t∈nm)/\(k=11->H t a.length)/\Md H nm a
def Md (H:Bs->Nat->Prop) (nm:List Bs):List Ex->Prop
 |[]=>True
 |x::l=>ZQ H nm x/\Md H nm l
end
mutual
def stU (H:Bs->Nat->Prop):St->List Bs->Prop
 |.mk k t a x y=>fun nm=>Md H nm a/\(k=1->t∉nm)/\(k=2->t∈nm)/\xD H x (Ef nm k t)/\xD H y (Ef nm k t)
def xD (H:Bs->Nat->Prop):List St->List Bs->Prop
 |[]=>fun _=>True
 |.mk k t a x y::l=>fun nm=>stU H (.mk k t a x y) nm/\xD H l (Ef nm k t)
end
theorem xE {H:Bs->Nat->Prop} {nm:List Bs}:∀{l:List Ex},Md H nm l->∀x∈l,ZQ H nm x
 |y::l,h,x,hx=>by
  rw[Md] at h;rcases List.mem_cons.1 hx with rfl|hx
  ·exact h.1
  ·exact xE h.2 x hx
def HasF (F:Bs->Option Int) (t:Bs) (n:Nat):Prop:=F t=some (n:Int)
end
section
def encI (r:In):List Value:=[.int .i64 r.op,.int .i64 r.a,.int .i64 r.b]
theorem lQ (r:In):(encI r).length=3:=rfl
theorem WI:(Tryz.prog.info? 82).map (fun i=>(i.zero,i.size,i.bytes))=some (some (.agg #[.int .i64 0,.int .i64 0,.int .i64 0]),3,24):=by kernel_rfl
theorem WJ:(Tryz.prog.info? 79).map (fun i=>(i.zero,i.size,i.bytes))=some (some (.agg #[.int .i64 0,.int .i64 0,.slice none 0 0]),3,40):=by kernel_rfl
theorem iB {w:World} {s:ai} {rs:List In} (h:Sl encI 3 w s.v rs) {i:Nat} {r:In} (hi:rs[i]?=some r):∃b off,s.a=some ⟨b,off,none⟩/\b<w.heap.size/\w.cell? ⟨b,off+i*3,none⟩=some (.int .i64 r.op)/\w.cell? ⟨b,off+i*3+1,none⟩=some (.int .i64 r.a)/\w.cell? ⟨b,off+i*3+2,none⟩=some (.int .i64 r.b):=by
 obtain⟨ao,cap,he,_,hc⟩:=h;obtain⟨b,off,rfl,hb,hcell⟩:=hc i r hi;simp only[Value.slice.injEq] at he;exact⟨b,off,he.1,hb,hcell 0 _ rfl,hcell 1 _ rfl,hcell 2 _ rfl⟩
structure jQ where
 np:Int
 nv:Int
 s:ai
def bZ (r:jQ):List Value:=[.int .i64 r.np,.int .i64 r.nv,.slice r.s.a r.s.n r.s.c]
theorem Eg (r:jQ):(bZ r).length=3:=rfl
structure Ou (w:World) (P:Nat->Prop) (r:jQ) (x:Cd):Prop where
 np:r.np=(x.np:Nat)
 nv:r.nv=(x.nv:Nat)
 s:Sl encI 3 w r.s.v x.ins
 p:∀b,r.s.v.ownBlock=some b->P b
theorem rY:kV Ou:=fun _ _ _ _ _ _ _ h hf hs hm=>⟨h.np,h.nv,h.s.keep hf h.p hs,fun b hb=>hm _ (h.p b hb)⟩
def Ov (w:World) (sc sw:ai) (P:Pg):Prop:=(∃rs,Sl bZ 3 w sc.v rs/\Each (Ou w (fun k=>k<w.heap.size)) rs P.cs)/\Sl jP 1 w sw.v P.ws/\(∀b,sc.v.ownBlock=some b->b<w.heap.size)/\(∀b,sw.v.ownBlock=some b->b<w.heap.size)
theorem gN {α:Type} (enc:α->List Value) (sz:Nat) (w:World):Sl enc sz w (.slice none 0 0) ([]:List α):=⟨none,0,rfl,by unfold maxLen;simp,fun i x h=>by simp at h⟩
theorem Eh (w:World):Ov w aN aN ⟨[],[]⟩:=⟨⟨[],gN _ _ _,rfl,fun i r x h=>by simp at h⟩,gN _ _ _,fun b h=>(by cases h),fun b h=>(by cases h)⟩
def MkP (w:World) (res:Pg×Int) (e:Ending) (w':World):Prop:=∃sc sw:ai,e=.returned (.tuple #[.agg #[.slice sc.a sc.n sc.c,.slice sw.a sw.n sw.c],.int .i64 res.2])/\Fr nothing w w'/\Ov w' sc sw res.1
theorem fB {w:World} {s:ai} {rs:List jQ} (h:Sl bZ 3 w s.v rs) {i:Nat} {r:jQ} (hi:rs[i]?=some r):∃b off,s.a=some ⟨b,off,none⟩/\b<w.heap.size/\w.cell? ⟨b,off+i*3,none⟩=some (.int .i64 r.np)/\w.cell? ⟨b,off+i*3+1,none⟩=some (.int .i64 r.nv)/\w.cell? ⟨b,off+i*3+2,none⟩=some (.slice r.s.a r.s.n r.s.c):=by
 obtain⟨ao,cap,he,_,hc⟩:=h;obtain⟨b,off,rfl,hb,hcell⟩:=hc i r hi;simp only[Value.slice.injEq] at he;exact⟨b,off,he.1,hb,hcell 0 _ rfl,hcell 1 _ rfl,hcell 2 _ rfl⟩
end
section
theorem aD {P:Program} {w:World} {ops:Array Oper} {rest:List Oper} {o:Oper} {a:Act} {Q:Exit->Act->World->Prop} (hgd:o.guard=none) (s x:Operand) (t:TypeId) (ho:o.op=.call {callee:=.builtin .append,args:=#[s,x],argTypes:=#[t,t]}) (v u:Value) (hs:a.eval s=v) (hx:a.eval x=u) {r:Value} {w':World} (hrun:(Builtin.append_ #[t,t] o.type #[v,u]).run P w=.ok r w') (h:wpList P ops Q rest (a.put o.dst r) w'):wpList P ops Q (o::rest) a w:=
 wpList_plain hgd fun K hK=>by
  unfold Oper.wp execOp;simp only[ho,resolve,invoke,builtin,Sem.run_bind,Sem.run_pure,Result.andThen_ok,List.map_toArray,List.map_cons,List.map_nil,hs,hx,hrun];exact hK _ _ h
theorem fT {P:Program} {w:World} {ops:Array Oper} {o:Oper} {a:Act} {K:Act->World->Prop} {Q:Exit->Act->World->Prop} {E:Prop} (hgd:o.guard=none) (s x:Operand) (t:TypeId) (ho:o.op=.call {callee:=.builtin .append,args:=#[s,x],argTypes:=#[t,t]}) (v u:Value) (hs:a.eval s=v) (hx:a.eval x=u) {r:Value} {w':World} (hrun:(Builtin.append_ #[t,t] o.type #[v,u]).run P w=.ok r w') (h:K (a.put o.dst r) w'):
 if Region.wanted o (yielded ops a.tmps)=true then Oper.wp P o a w K Q else E:=by
 have hw:Region.wanted o (yielded ops a.tmps)=true:=by simp[Region.wanted,hgd]
 rw[if_pos hw];unfold Oper.wp execOp;simp only[ho,resolve,invoke,builtin,Sem.run_bind,Sem.run_pure,Result.andThen_ok,List.map_toArray,List.map_cons,List.map_nil,hs,hx,hrun];exact h
theorem jO:Maps.Keyed Tryz.prog 3:=Maps.int_keyed Tryz.underlying3
theorem lG (k:Int) (h0:-9223372036854775808<=k) (h1:k<=9223372036854775807):keyOf Tryz.prog 3 (.int .i64 k)=some (.int .i64 k):=Maps.keyOf_int_mk Tryz.underlying3 (by simp[Lit.wf,IntKind.min,IntKind.max,IntKind.signed,IntKind.bits];omega)
theorem kW (w:World) (b j:Nat) (u:Value) {old:Value} (ho:w.cell? ⟨b,j,none⟩=some old):
 (w.setCell ⟨b,j,none⟩ u).cell? ⟨b,j,none⟩=some u/\(∀i,i≠j->(w.setCell ⟨b,j,none⟩ u).cell? ⟨b,i,none⟩=w.cell? ⟨b,i,none⟩)/\Fr (fun k=>k=b) w (w.setCell ⟨b,j,none⟩ u):=
 ⟨World.cell?_setCell_same _ _ _ ho,fun i hi=>World.cell?_setCell_other w ⟨b,j,none⟩ ⟨b,i,none⟩ _ (by first|(simp;done)|(simp;omega)),(Fr.refl (fun k=>k=b) w).setCell (p:=⟨b,j,none⟩) (.inl rfl) u⟩
end
section
abbrev pv (p:Int×Int):Value:=.agg #[.int .i64 p.1,.int .i64 p.2]
def pL:List Value->Option (DataW Unit×List MemPlace)
 |[.int .i64 a,.int .i64 b]=>some (.agg [.lit (.int .i64 a),.lit (.int .i64 b)],[])
 |_=>none
def pE:Value->Option (DataW Unit×List MemPlace)
 |.agg cs=>pL cs.toList
 |_=>none
def pD (p:Int×Int):DataW Unit:=.agg [.lit (.int .i64 p.1),.lit (.int .i64 p.2)]
theorem ZR (p:Int×Int):pE (pv p)=some (pD p,[]):=rfl
theorem WK {l:List Value} {p:Int×Int} {ps:List MemPlace} (h:pL l=some (pD p,ps)):l=[.int .i64 p.1,.int .i64 p.2]:=by
 unfold pL at h;split at h
 ·simp only[pD,Option.some.injEq,Prod.mk.injEq,DataW.agg.injEq,List.cons.injEq,DataW.lit.injEq,Lit.int.injEq,true_and,and_true] at h;obtain⟨⟨h1,h2⟩,_⟩:=h;rw[h1,h2]
 ·cases h
theorem WL {v:Value} {p:Int×Int} {ps:List MemPlace} (h:pE v=some (pD p,ps)):v=pv p:=by
 unfold pE at h;split at h
 ·have:=WK h
  rename_i cs
  obtain⟨l⟩:=cs;simp only at this;subst this;rfl
 ·cases h
def PD:List (Int×Int×Int)->DataW Unit
 |[]=> .map []
 |p::l=>(PD l).put (.int .i64 p.1) (pD p.2)
theorem Ow:∀l,Maps.IsMap (PD l)
 |[]=>⟨[],rfl⟩
 |_::l=>(Ow l).put _ _
theorem Vw (k:Int):∀l,(PD l).atKey (.int .i64 k) (pD (0,0))=pD (((l.find? fun p=>p.1==k).map Prod.snd).getD (0,0))
 |[]=>rfl
 |p::l=>by
  by_cases h:p.1=k
  ·subst h;show((PD l).put _ _).atKey _ _=_
   rw[Maps.atKey_put_same (Ow l) (by trivial)];simp
  ·show((PD l).put _ _).atKey _ _=_
   rw[Maps.atKey_put_other (by intro e;exact h (by cases e;rfl)),Vw k l];have:(p.1==k)=false:=by simpa using h
   simp[this]
theorem WM (w:World):(zeroValue 90).run Tryz.prog w=.ok (pv (0,0)) w:=by
 kernel_rfl
def mU:List (Int×Int×Int):=[(19,1,0),(18,1,0),(16,1,0),(15,0,0),(14,1,0),(13,1,1),(12,0,1),(11,1,1),(10,2,0),(9,2,0),(8,1,1),(7,1,1),(6,2,1),(5,2,1),(4,1,0),(3,0,1),(2,0,1),(1,0,1)]
def aC (i:In):Int×Int:=if i.op=17 then(i.b,1) else((mU.find? fun p=>p.1==i.op).map Prod.snd).getD (0,0)
theorem jr (i:In) (w:World) (h0:-9223372036854775808<=i.op) (h1:i.op<=9223372036854775807):
 Calls Tryz.prog 62 #[.agg #[.int .i64 i.op,.int .i64 i.a,.int .i64 i.b]] w fun e w'=>e=.returned (.tuple #[.int .i64 (aC i).1,.int .i64 (aC i).2])/\Fr nothing w w':=by
 have hmm:=@run_makeMap Tryz.prog;have nC:Fr nothing w (w.alloc (.cells #[.int .i64 i.op,.int .i64 i.a,.int .i64 i.b] 82)):=(Fr.refl _ _).alloc _;have hc:=af (Fr.refl nothing (w.alloc (.cells #[.int .i64 i.op,.int .i64 i.a,.int .i64 i.b] 82))) id;have c0:=hc.1 0;have c1:=hc.1 1;have c2:=hc.1 2;have cl:=hc.2.2
 by_cases h17:i.op=17
 ·have e:aC i=(i.b,1):=by unfold aC;rw[if_pos h17]
  rw[e];have HF:=hide nC;rw[h17] at c0 c1 c2 cl HF⊢;clear nC hc e hmm
  go_enter Tryz.func62,Tryz.ntmps62
  go_wp2
  exact bodyPost_ret (v:=.tuple #[.int .i64 i.b,.int .i64 1]) (by simp[results,Tryz.results62,go_sem]) rfl ⟨rfl,HF.out⟩
 have e:aC i=((mU.find? fun p=>p.1==i.op).map Prod.snd).getD (0,0):=by unfold aC;rw[if_neg h17]
 have h17b:(i.op==17)=false:=by simpa using h17
 obtain⟨w0,hw0⟩:∃w0,w0=w.alloc (.cells #[.int .i64 i.op,.int .i64 i.a,.int .i64 i.b] 82):=⟨_,rfl⟩
 rw[<-hw0] at nC c0 c1 c2 cl;have s1:w0.heap.size=w.heap.size+1:=by rw[hw0];simp
 have m0:=World.ownsMap_made w0 Tryz.prog 3 pE;obtain⟨w1,r1,m1,g1⟩:=World.ownsMap.update m0 jO Tryz.underlying144 (by unfold maxLen;omega) (lG 1 (by decide) (by decide)) (show pE (.agg #[.int .i64 0,.int .i64 1])=some (pD (0,1),[]) from rfl)
 obtain⟨w2,r2,m2,g2⟩:=World.ownsMap.update m1 jO Tryz.underlying144 (by unfold maxLen;omega) (lG 2 (by decide) (by decide)) (show pE (.agg #[.int .i64 0,.int .i64 1])=some (pD (0,1),[]) from rfl);obtain⟨w3,r3,m3,g3⟩:=World.ownsMap.update m2 jO Tryz.underlying144 (by unfold maxLen;omega) (lG 3 (by decide) (by decide)) (show pE (.agg #[.int .i64 0,.int .i64 1])=some (pD (0,1),[]) from rfl)
 obtain⟨w4,r4,m4,g4⟩:=World.ownsMap.update m3 jO Tryz.underlying144 (by unfold maxLen;omega) (lG 4 (by decide) (by decide)) (show pE (.agg #[.int .i64 1,.int .i64 0])=some (pD (1,0),[]) from rfl);obtain⟨w5,r5,m5,g5⟩:=World.ownsMap.update m4 jO Tryz.underlying144 (by unfold maxLen;omega) (lG 5 (by decide) (by decide)) (show pE (.agg #[.int .i64 2,.int .i64 1])=some (pD (2,1),[]) from rfl)
 obtain⟨w6,r6,m6,g6⟩:=World.ownsMap.update m5 jO Tryz.underlying144 (by unfold maxLen;omega) (lG 6 (by decide) (by decide)) (show pE (.agg #[.int .i64 2,.int .i64 1])=some (pD (2,1),[]) from rfl);obtain⟨w7,r7,m7,g7⟩:=World.ownsMap.update m6 jO Tryz.underlying144 (by unfold maxLen;omega) (lG 7 (by decide) (by decide)) (show pE (.agg #[.int .i64 1,.int .i64 1])=some (pD (1,1),[]) from rfl)
 obtain⟨w8,r8,m8,g8⟩:=World.ownsMap.update m7 jO Tryz.underlying144 (by unfold maxLen;omega) (lG 8 (by decide) (by decide)) (show pE (.agg #[.int .i64 1,.int .i64 1])=some (pD (1,1),[]) from rfl);obtain⟨w9,r9,m9,g9⟩:=World.ownsMap.update m8 jO Tryz.underlying144 (by unfold maxLen;omega) (lG 9 (by decide) (by decide)) (show pE (.agg #[.int .i64 2,.int .i64 0])=some (pD (2,0),[]) from rfl)
 obtain⟨mW,r10,m10,g10⟩:=World.ownsMap.update m9 jO Tryz.underlying144 (by unfold maxLen;omega) (lG 10 (by decide) (by decide)) (show pE (.agg #[.int .i64 2,.int .i64 0])=some (pD (2,0),[]) from rfl);obtain⟨rG,r11,m11,g11⟩:=World.ownsMap.update m10 jO Tryz.underlying144 (by unfold maxLen;omega) (lG 11 (by decide) (by decide)) (show pE (.agg #[.int .i64 1,.int .i64 1])=some (pD (1,1),[]) from rfl)
 obtain⟨DN,r12,m12,g12⟩:=World.ownsMap.update m11 jO Tryz.underlying144 (by unfold maxLen;omega) (lG 12 (by decide) (by decide)) (show pE (.agg #[.int .i64 0,.int .i64 1])=some (pD (0,1),[]) from rfl);obtain⟨w13,r13,m13,g13⟩:=World.ownsMap.update m12 jO Tryz.underlying144 (by unfold maxLen;omega) (lG 13 (by decide) (by decide)) (show pE (.agg #[.int .i64 1,.int .i64 1])=some (pD (1,1),[]) from rfl)
 obtain⟨w14,r14,m14,g14⟩:=World.ownsMap.update m13 jO Tryz.underlying144 (by unfold maxLen;omega) (lG 14 (by decide) (by decide)) (show pE (.agg #[.int .i64 1,.int .i64 0])=some (pD (1,0),[]) from rfl);obtain⟨w15,r15,m15,g15⟩:=World.ownsMap.update m14 jO Tryz.underlying144 (by unfold maxLen;omega) (lG 15 (by decide) (by decide)) (show pE (.agg #[.int .i64 0,.int .i64 0])=some (pD (0,0),[]) from rfl)
 obtain⟨w16,r16,m16,g16⟩:=World.ownsMap.update m15 jO Tryz.underlying144 (by unfold maxLen;omega) (lG 16 (by decide) (by decide)) (show pE (.agg #[.int .i64 1,.int .i64 0])=some (pD (1,0),[]) from rfl);obtain⟨Tw,r17,m17,g17⟩:=World.ownsMap.update m16 jO Tryz.underlying144 (by unfold maxLen;omega) (lG 18 (by decide) (by decide)) (show pE (.agg #[.int .i64 1,.int .i64 0])=some (pD (1,0),[]) from rfl)
 obtain⟨Sg,r18,m18,g18⟩:=World.ownsMap.update m17 jO Tryz.underlying144 (by unfold maxLen;omega) (lG 19 (by decide) (by decide)) (show pE (.agg #[.int .i64 1,.int .i64 0])=some (pD (1,0),[]) from rfl);have HF:Hid (Fr nothing w Sg):=by
  have F0:Fr (fun j=>j=w0.heap.size) (w0.alloc (.map #[] 0)) (w0.alloc (.map #[] 0)):=Fr.refl _ _;have F1:=F0.grown g1 (fun k hk=> .inl (by simpa using hk.symm));have F2:=F1.grown g2 (fun k hk=> .inl (by simpa using hk.symm));have F3:=F2.grown g3 (fun k hk=> .inl (by simpa using hk.symm));have F4:=F3.grown g4 (fun k hk=> .inl (by simpa using hk.symm));have F5:=F4.grown g5 (fun k hk=> .inl (by simpa using hk.symm));have F6:=F5.grown g6 (fun k hk=> .inl (by simpa using hk.symm));have F7:=F6.grown g7 (fun k hk=> .inl (by simpa using hk.symm));have F8:=F7.grown g8 (fun k hk=> .inl (by simpa using hk.symm));have F9:=F8.grown g9 (fun k hk=> .inl (by simpa using hk.symm));have Vx:=F9.grown g10 (fun k hk=> .inl (by simpa using hk.symm));have F11:=Vx.grown g11 (fun k hk=> .inl (by simpa using hk.symm));have F12:=F11.grown g12 (fun k hk=> .inl (by simpa using hk.symm));have F13:=F12.grown g13 (fun k hk=> .inl (by simpa using hk.symm));have F14:=F13.grown g14 (fun k hk=> .inl (by simpa using hk.symm));have F15:=F14.grown g15 (fun k hk=> .inl (by simpa using hk.symm));have F16:=F15.grown g16 (fun k hk=> .inl (by simpa using hk.symm));have F17:=F16.grown g17 (fun k hk=> .inl (by simpa using hk.symm));have F18:=F17.grown g18 (fun k hk=> .inl (by simpa using hk.symm));exact(nC.alloc _).then F18 (fun k hk e=>by omega)
 have WN:Fr nothing w0 Sg:=by
  have F0:Fr (fun j=>j=w0.heap.size) (w0.alloc (.map #[] 0)) (w0.alloc (.map #[] 0)):=Fr.refl _ _;have F1:=F0.grown g1 (fun k hk=> .inl (by simpa using hk.symm));have F2:=F1.grown g2 (fun k hk=> .inl (by simpa using hk.symm));have F3:=F2.grown g3 (fun k hk=> .inl (by simpa using hk.symm));have F4:=F3.grown g4 (fun k hk=> .inl (by simpa using hk.symm));have F5:=F4.grown g5 (fun k hk=> .inl (by simpa using hk.symm));have F6:=F5.grown g6 (fun k hk=> .inl (by simpa using hk.symm));have F7:=F6.grown g7 (fun k hk=> .inl (by simpa using hk.symm));have F8:=F7.grown g8 (fun k hk=> .inl (by simpa using hk.symm));have F9:=F8.grown g9 (fun k hk=> .inl (by simpa using hk.symm));have Vx:=F9.grown g10 (fun k hk=> .inl (by simpa using hk.symm));have F11:=Vx.grown g11 (fun k hk=> .inl (by simpa using hk.symm));have F12:=F11.grown g12 (fun k hk=> .inl (by simpa using hk.symm));have F13:=F12.grown g13 (fun k hk=> .inl (by simpa using hk.symm));have F14:=F13.grown g14 (fun k hk=> .inl (by simpa using hk.symm));have F15:=F14.grown g15 (fun k hk=> .inl (by simpa using hk.symm));have F16:=F15.grown g16 (fun k hk=> .inl (by simpa using hk.symm));have F17:=F16.grown g17 (fun k hk=> .inl (by simpa using hk.symm));have F18:=F17.grown g18 (fun k hk=> .inl (by simpa using hk.symm));exact((Fr.refl nothing w0).alloc _).then F18 (fun k hk e=>by omega)
 have hlk:(Instr.lookup 144 (.map (some w0.heap.size)) (.int .i64 i.op) false).run Tryz.prog Sg=.ok (pv (aC i)) Sg:=by
  obtain⟨v,ps,hrun,hv⟩:=World.ownsMap.lookup m18 jO Tryz.underlying144 (WM Sg) (ZR (0,0)) (lG i.op h0 h1);have hv':pE v=some (pD (aC i),ps):=by
   rw[e];rw[<-Vw];exact hv
  rw[hrun,WL hv']
 obtain⟨sp,hsp⟩:∃sp,aC i=sp:=⟨_,rfl⟩
 rw[hsp] at hlk⊢;have x0:=(WN.cell (p:=⟨w.heap.size,0,none⟩) cl id).trans c0;have xl:=Nat.lt_of_lt_of_le cl WN.size;have hm2:=af (Fr.refl nothing (Sg.alloc (.cells #[.int .i64 sp.1,.int .i64 sp.2] 90))) id;have tO:Hid (Fr nothing w (Sg.alloc (.cells #[.int .i64 sp.1,.int .i64 sp.2] 90))):=HF.out.alloc _;have y0:=hm2.1 0;have y1:=hm2.1 1;have yl:=hm2.2.2;have hw0':w.alloc (.cells #[.int .i64 i.op,.int .i64 i.a,.int .i64 i.b] 82)=w0:=hw0.symm;clear nC hc e HF WN hm2 s1 hw0 m0 m1 m2 m3 m4 m5 m6 m7 m8 m9 m10 m11 m12 m13 m14 m15 m16 m17 m18 g1 g2 g3 g4 g5 g6 g7 g8 g9 g10 g11 g12 g13 g14 g15 g16 g17 g18
 go_enter Tryz.func62,Tryz.ntmps62
 go_wp2
 refine wp_region_held_drew (S:=fun w'=>w'.cell? ⟨Sg.heap.size,0,none⟩=some (.int .i64 sp.1)/\w'.cell? ⟨Sg.heap.size,1,none⟩=some (.int .i64 sp.2)) (by kernel_rfl) ⟨y0,y1⟩ (fun hHeld=>?_)
 refine tk 0 ?_
 refine tk 1 ?_
 refine tk 2 ?_
 refine tk 3 ?_
 refine tk 4 ?_
 refine tk 5 ?_
 refine wpAnyH_done (by kernel_rfl) ?_ _
 go_wp2_with fail
 exact bodyPost_ret (v:=.tuple #[.int .i64 sp.1,.int .i64 sp.2]) (by simp[results,Tryz.results62,go_sem]) rfl ⟨rfl,tO.out.drew⟩
end
end Go.Proofs.YtbcadjgpcfmkfaaGreatDoor
