/- RSts1; RSts2; RSts3. -/
import Derived.Test.YtbcadjgpcfmkfaaGreatDoorPartU36
import Derived.Test.YtbcadjgpcfmkfaaGreatDoorPartU37
import Derived.Test.YtbcadjgpcfmkfaaGreatDoorPartU1
set_option maxHeartbeats 0
set_option maxRecDepth 100000
set_option linter.unusedSimpArgs false
namespace Go.Proofs.YtbcadjgpcfmkfaaGreatDoor
open Go Go.RowKit
section
theorem Ba {key:Value} {kl:Lit} (h:keyOf Tryz.prog 9 key=some kl):∃x:Bs,key=.string (bs x)/\kl=.string x:=by
 cases key<;>simp[keyOf,Tryz.underlying9,mapKey] at h
 rename_i s
 refine⟨s.data.toList,?_,?_⟩
 ·unfold bs;simp
 ·obtain⟨_,rfl⟩:=h
  first|rfl|simp
theorem SI.Yy {b:Nat} {A:dQ} {w:World} (h:SI b A w) (k:Bs) (hk:keyOf Tryz.prog 9 (.string (bs k))=some (.string k)) (v:Int) (hn:A.n<=200000) (hw:(Lit.int .i64 v).wf=true):
 ∃w',(Instr.mapUpdate 123 (.map (some b)) (.string (bs k)) (.int .i64 v)).run Tryz.prog w=.ok () w'/\SI b (A.put k v) w'/\w.grownBy w' (some b):=by
 obtain⟨D,g1,g2,g3,g4⟩:=h;obtain⟨w',hrun,ho,hg⟩:=g1.update JV Tryz.underlying123 (by unfold maxLen;omega) hk (plainElem_int Tryz.underlying3 hw)
 have hmap:=zI g1;have hkey:WideAt.IsKeyLit (.string k):=by trivial
 have htd:=World.ownsMap.tidy g1 JV;have hsz:Maps.size (D.put (.string k) (.lit (.int .i64 v)))=(A.put k v).n:=by
  rw[Maps.size_put htd,g3,g4];rfl
 refine⟨w',hrun,⟨D.put (.string k) (.lit (.int .i64 v)),?_,fun x=>?_,fun x=>?_,hsz⟩,hg⟩
 ·rw[<-hsz];exact oQ ho
 ·by_cases hx:x=k
  ·subst hx;rw[Maps.atKey_put_same hmap hkey];simp[dQ.put]
  ·rw[Maps.atKey_put_other (by intro e;exact hx (by cases e;rfl)),g2];simp[dQ.put,hx]
 ·by_cases hx:x=k
  ·subst hx;rw[Maps.has_put_same hmap hkey];simp[dQ.put]
  ·rw[Maps.has_put_other (by intro e;exact hx (by cases e;rfl)),g3];simp[dQ.put,hx]
theorem nJ {P:Program} {w:World} {ops:Array Oper} {rest:List Oper} {o:Oper} {a:Act} {Q:Exit->Act->World->Prop} (hg:o.guard=none) (it:Operand) (hop:o.op=Op.next it false) (p:Value) (hit:a.eval it=p) {v:Value} {w':World} (hrun:(Instr.next p false o.type).run P w=.ok v w') (h:wpList P ops Q rest (a.put o.dst v) w'):wpList P ops Q (o::rest) a w:=by
 refine wpList_plain hg fun K' hK'=>?_
 unfold Oper.wp;simp[execOp,hop,hit,hrun,Result.andThen]
 exact hK' _ _ h
structure Cp (ab ib r:Nat) (A:dQ) (w:World):Prop where
 s:∃(D:DataW Unit) (left:Lit->Bool) (cnt:Nat) (B:dQ),w.ranges Tryz.prog 9 (plainElem Tryz.prog 3) ab r A.n D left cnt/\(∀k,D.atKey (.string k) (.lit (.int .i64 0))=.lit (.int .i64 ((A.f k).getD 0)))/\(∀k,left (.string k)=true->(A.f k).isSome=true)/\SI ib B w/\(∀k,B.f k=if left (.string k) then none else A.f k)/\B.n+cnt<=A.n
theorem Cp.start {ab:Nat} {A:dQ} {w:World} (h:SI ab A w) (o:Nat) (hm:SI o dQ.empty w):∃w',(Instr.range 123 (.map (some ab))).run Tryz.prog w=.ok (.pointer (some ⟨w.heap.size,0,none⟩)) w'/\Cp ab o w.heap.size A w'/\Fr nothing w w'/\w'.heap.size=w.heap.size+1:=by
 obtain⟨D,h1,h2,h3,h4⟩:=h;obtain⟨w',hrun,hr,hg,hs⟩:=h1.range JV Tryz.underlying123;have hf:Fr nothing w w':=(Fr.refl nothing w).grown hg (fun k hk=>by cases hk);refine⟨w',hrun,⟨D,_,_,dQ.empty,hr,h2,fun k hk=>by rw[<-h3];exact hk,hm.fr hf id,fun k=>?_,?_⟩,hf,hs⟩
 ·rw[h3];cases hA:A.f k<;>simp[dQ.empty]
 ·rw[h4];simp[dQ.empty]
theorem Cp.step {ab ib r:Nat} {A:dQ} {w:World} (h:Cp ab ib r A w) (ty:TypeId) (hA:A.n<=200000) (hne:ab≠ib) (hri:r≠ib):
 ((Instr.next (.pointer (some ⟨r,0,none⟩)) false ty).run Tryz.prog w=.ok (.tuple #[.bool false]) w/\∃B:dQ,SI ib B w/\B.f=A.f/\B.n<=A.n)\/
 ∃(x:Bs) (c:Int) (w1 w2:World),(Instr.next (.pointer (some ⟨r,0,none⟩)) false ty).run Tryz.prog w=.ok (.tuple #[.bool true,.string (bs x),.int .i64 c]) w1/\
  (Instr.entry (.pointer (some ⟨r,0,none⟩))).run Tryz.prog w1=.ok (.tuple #[.string (bs x),.int .i64 c]) w1/\(Instr.mapUpdate 123 (.map (some ib)) (.string (bs x)) (.int .i64 c)).run Tryz.prog w1=.ok () w2/\
  Cp ab ib r A w2/\Fr (fun k=>k=r\/k=ib) w w2/\w2.rangeLeft ab r<w.rangeLeft ab r:=by
 obtain⟨D,left,cnt,B,hr,h2,h3,hB,h5,h6⟩:=h.s;rcases hr.next JV ty with⟨h0,hl,hrun⟩|⟨key,v,kl,y,w1,cnt1,hkey,hlk,hv,hat,hrun,hr1,hlt,hgr,hsz,hen⟩
 ·refine .inl ⟨hrun,B,hB,?_,by omega⟩
  funext k
  rw[h5,hl];simp
 ·obtain⟨x,rfl,rfl⟩:=Ba hkey;obtain⟨c,rfl,rfl,hwc⟩:=plainElem_int_inv Tryz.underlying3 hv;have Ri:=hat (.lit (.int .i64 0));rw[h2] at Ri;simp only[DataW.lit.injEq,Lit.int.injEq,true_and] at Ri;have hsome:=h3 x hlk;have hAx:A.f x=some c:=by
   cases e:A.f x with
   |none=>rw[e] at hsome;cases hsome
   |some d=>rw[e] at Ri;simp only[Option.getD_some] at Ri;rw[Ri]
  have hF1:Fr (fun k=>k=r) w w1:=(Fr.refl _ w).grown hgr (fun k hk=> .inl (by simpa using hk.symm));have hB1:=hB.fr hF1 (fun e=>hri e.symm);obtain⟨w2,Lm,hB2,hg2⟩:=hB1.Yy x hkey c (by omega) hwc;have hF2:Fr (fun k=>k=ib) w1 w2:=(Fr.refl _ w1).grown hg2 (fun k hk=> .inl (by simpa using hk.symm));have hr2:=hr1.kept hg2 (by simpa using hne) (by simpa using hri);refine .inr ⟨x,c,w1,w2,hrun,hen,Lm,⟨D,_,cnt1,B.put x c,hr2,h2,fun k hk=>h3 k (by simp only[Bool.and_eq_true] at hk;exact hk.1),hB2,fun k=>?_,?_⟩,(hF1.mono (fun _ _ e=> .inl e)).trans (hF2.mono (fun _ _ e=> .inr e)),by rw[hr2.left_eq,hr.left_eq];exact hlt⟩
  ·by_cases hk:k=x
   ·subst hk;have:(Lit.string k).sameKey (.string k)=true:=WideAt.sameKey_self (by trivial);simp[dQ.put,this,hAx]
   ·have:(Lit.string k).sameKey (.string x)=false:=by
     rw[Bool.eq_false_iff];intro e;exact hk (by have:=WideAt.sameKey_eq e;cases this;rfl)
    simp[dQ.put,hk,this,h5]
  ·have:(B.put x c).n<=B.n+1:=by unfold dQ.put;simp only;split<;>omega
   omega
theorem UI (ob gb base Wj:Nat) (q qa:ai) (la args:List In) (w:World) (op a:Int) (h1:w.cell? ⟨ob,0,none⟩=some q.v) (h2:gM base q la w) (h3:w.cell? ⟨gb,0,none⟩=some qa.v) (h4:gM Wj qa args w) (hb4:Wj<=w.heap.size)
 (hne:∀b,qa.v.ownBlock=some b->b≠ob/\b≠gb/\¬q.v.ownBlock=some b) (hz:w.frozen? ⟨ob,0,none⟩=false) (hl1:la.length<=300000) (hl2:args.length<=300000) (hJ:NF (args++ [⟨op,a,0⟩])):
 Calls Tryz.prog 71 #[.int .i64 op,.int .i64 a,.pointer (some ⟨ob,0,none⟩),.pointer (some ⟨gb,0,none⟩)] w fun e w'=>e=.returned (.tuple #[])/\∃q':ai,w'.cell? ⟨ob,0,none⟩=some q'.v/\gM w.heap.size q' (la++(args++ [⟨op,a,0⟩])) w'/\Fr (fun k=>k=ob\/qa.v.ownBlock=some k) w w'/\w'.frozen? ⟨ob,0,none⟩=false:=by
 obtain⟨qx,qn,qc⟩:=q;obtain⟨ax,an,ac⟩:=qa;have hol:=lt_of_cell h1;have hgl:=lt_of_cell h3;have FA:Fr nothing w (w.alloc (.cells #[.int .i64 op,.int .i64 a,.int .i64 0] 82)).drew:=((Fr.refl nothing w).alloc _).drew;have Zk:Sl encI 3 (w.alloc (.cells #[.int .i64 op,.int .i64 a,.int .i64 0] 82)).drew (ai.v ⟨some ⟨w.heap.size,0,none⟩,1,1⟩) [⟨op,a,0⟩]:=(Dx w ⟨op,a,0⟩).fr (Fr.refl nothing _).drew (fun _ _=>id);obtain⟨q2,w2,hrun,aa6,hF2,NZ⟩:=(h4.fr FA (fun _ _=>id)).app (x:=⟨some ⟨w.heap.size,0,none⟩,1,1⟩) Zk (Nat.le_trans hb4 FA.size) (by simp only[List.length_singleton];omega)
 have Wl:Fr (fun k=>(ai.v ⟨ax,an,ac⟩).ownBlock=some k) w w2:=(FA.mono (fun _ _ e=>e.elim)).trans hF2;have hJo:=Q8 ⟨qx,qn,qc⟩ q2 la (args++ [⟨op,a,0⟩]) w2 (h2.fr Wl (fun k hk e=>(hne k e).2.2 hk)).sl aa6.sl (by simp only[List.length_append,List.length_singleton];omega) (fun x hx e=>absurd e (by have:=hJ x hx;omega))
 rw[Cg hJ] at hJo;have k1:=(Wl.cell (p:=⟨ob,0,none⟩) hol (fun e=>(hne _ e).1 rfl)).trans h1;have k3:=(Wl.cell (p:=⟨gb,0,none⟩) hgl (fun e=>(hne _ e).2.1 rfl)).trans h3;have kz:=(Wl.frozen (p:=⟨ob,0,none⟩) hol (fun e=>(hne _ e).1 rfl)).trans hz;have kl:=Nat.lt_of_lt_of_le hol Wl.size;have a1:=(FA.cell (p:=⟨ob,0,none⟩) hol id).trans h1;have a3:=(FA.cell (p:=⟨gb,0,none⟩) hgl id).trans h3;have gl2:=Nat.lt_of_lt_of_le hgl Wl.size;have HJo:=hide hJo;have HF:=hide Wl;clear FA Zk aa6 hF2 NZ Wl hJo h2 h4 hne hJ
 go_enter Tryz.func71,Tryz.ntmps71
 refine aS (S:=fun w'=>w'.cell? ⟨ob,0,none⟩=some (.slice qx qn qc)/\w'.cell? ⟨gb,0,none⟩=some (.slice ax an ac)) (by kernel_rfl) [8] ?_ (fun hHeld=>?_)
 ·exact⟨h1,h3⟩
 refine bM 0 ?_
 refine bM 1 ?_
 refine bM 2 ?_
 refine bM 3 ?_
 refine bM 4 ?_
 refine jN 5 (fun K hK=>?_)
 go_simp;refine hK.out _ _ ⟨a1,a3⟩ ?_
 clear hK K hHeld
 try simp only[Act.put,sA,sZ,sS]
 refine jN 6 (fun K hK=>?_)
 refine fT rfl _ _ 77 rfl _ _ (by simp[Act.eval]) (by simp[Act.eval]) hrun ?_
 refine hK.out _ _ ⟨k1,k3⟩ ?_
 clear hK K hrun
 try simp only[Act.put,sA,sZ,sS]
 refine jN 7 (fun K hK=>?_)
 refine aF (by rfl) 72 Tryz.f72 #[.tmp 6,.tmp 12] #[77,77] rfl Tryz.func72 (by kernel_rfl) (by kernel_rfl) #[.slice qx qn qc,.slice q2.a q2.n q2.c] (by simp[Act.eval]) _ HJo.out ?_
 rintro e w3 ⟨q3,rfl,aa7,F3⟩;refine⟨_,rfl,?_⟩
 have l1:=(F3.cell (p:=⟨ob,0,none⟩) kl id).trans k1;have l3:=(F3.cell (p:=⟨gb,0,none⟩) gl2 id).trans k3;have lz:=(F3.frozen (p:=⟨ob,0,none⟩) kl id).trans kz;have ll:=Nat.lt_of_lt_of_le kl F3.size;have dX:=hide F3;have VM:=hide aa7;clear F3 aa7;refine hK.out _ _ ⟨l1,l3⟩ ?_
 clear hK K
 try simp only[Act.put,sA,sZ,sS]
 refine Al 8 (fun K hK=>?_)
 go_simp;refine hK.out _ _ ?_
 clear hK K
 try simp only[Act.put,sA,sZ,sS]
 refine wpAny_done (by kernel_rfl) ?_ _
 go_wp2_with fail
 go_end0
 obtain⟨e1,e2,hf⟩:=kW w3 ob 0 (.slice q3.a q3.n q3.c) l1;have acK:¬q3.v.ownBlock=some ob:=fun e=>by have:=(VM.out.lt e).1;omega
 refine⟨rfl,q3,e1,?_,?_,by rw[World.frozen?_setCell];exact lz⟩
 ·have:=VM.out.fr hf (fun k hk e=>acK (e▸hk));exact⟨this.n,this.row.mono HF.out.size⟩
 ·exact((HF.out.mono (fun _ _ e=> .inr e)).trans (dX.out.mono (fun _ _ e=>e.elim))).trans (hf.mono (fun _ _ e=> .inl e))
end
section
structure NG (ab:Nat) (E:Bs->Int) (nm:List Bs) (n:Nat) (T:Nat->Prop) (w:World):Prop where
 m:∃A:dQ,SI ab A w/\(∀t∈nm,(A.f t).getD 0=E t)/\A.n<=n
 t:¬T ab
theorem NG.fr {ab n n':Nat} {E:Bs->Int} {nm:List Bs} {T T' S:Nat->Prop} {w w':World} (h:NG ab E nm n T w) (hf:Fr S w w') (hs:¬S ab) (ht:¬T' ab) (hn:n<=n'):NG ab E nm n' T' w':=by
 obtain⟨A,a1,a2,a3⟩:=h.m;exact⟨⟨A,a1.fr hf hs,a2,Nat.le_trans a3 hn⟩,ht⟩
theorem NG.ok {ab n:Nat} {E:Bs->Int} {nm:List Bs} {T:Nat->Prop} {w:World} (h:NG ab E nm n T w):Fy ab E nm T w:=by
 obtain⟨A,a1,a2,_⟩:=h.m;exact⟨⟨A,a1,a2⟩,h.t⟩
theorem NG.lt {ab n:Nat} {E:Bs->Int} {nm:List Bs} {T:Nat->Prop} {w:World} (h:NG ab E nm n T w):ab<w.heap.size:=h.ok.lt
structure SG (c:Rk) (T:Nat->Prop) (w:World) (ob ib:Nat) (R:KR) (nm:List Bs) (T':Nat->Prop) (q:ai) (wr:World):Prop where
 rp:RP c T w R.v R.ws T' wr
 fl:∀b,c.fs.v.ownBlock=some b->b<w.heap.size
 o:wr.cell? ⟨ob,0,none⟩=some q.v
 oz:wr.frozen? ⟨ob,0,none⟩=false
 ow:gM w.heap.size q R.ins wr
 a:NG ib R.E nm R.v T' wr
 ot:¬T' ob
 on:w.heap.size<=ob/\w.heap.size<=ib/\ob≠ib
 qt:∀b,q.v.ownBlock=some b->¬T' b/\b≠ob/\b≠ib
section
variable {c : Rk} {T T' S : Nat → Prop} {w wr w2 : World} {ob ib : Nat} {R : KR} {nm : List Bs} {q : ai}
theorem SG.ol (h:SG c T w ob ib R nm T' q wr):ob<wr.heap.size:=lt_of_cell h.o
theorem SG.il (h:SG c T w ob ib R nm T' q wr):ib<wr.heap.size:=h.a.lt
theorem SG.fr (h:SG c T w ob ib R nm T' q wr) (hf:Fr S wr w2) (hT:∀k,T' k->¬S k) (hO:¬S ob) (hI:¬S ib) (hq:∀b,q.v.ownBlock=some b->¬S b) (hS:∀k,S k->w.heap.size<=k):SG c T w ob ib R nm T' q w2:=by
 obtain⟨k1,k2,k3⟩:=h.rp;exact⟨⟨k1.fr hf hT (fun b hb e=>by have:=h.fl b hb;have:=hS b e;omega),k2.then hf (fun k hk e=>by have:=hS k e;omega),k3⟩,h.fl,(hf.cell (p:=⟨ob,0,none⟩) h.ol hO).trans h.o,(hf.frozen (p:=⟨ob,0,none⟩) h.ol hO).trans h.oz,h.ow.fr hf hq,h.a.fr hf hI h.a.t (Nat.le_refl _),h.ot,h.on,h.qt⟩
theorem SG.new (h:SG c T w ob ib R nm T' q wr) (hf:Fr nothing wr w2):SG c T w ob ib R nm T' q w2:=h.fr hf (fun _ _=>id) id id (fun _ _=>id) (fun _ e=>e.elim)
theorem SG.call (h:SG c T w ob ib R nm T' q wr) {w1:World} (hf:Fr nothing wr w1) {v2:Nat} {Wm:List Bs} {T2:Nat->Prop} (hR:RP c T' w1 v2 Wm T2 w2) (hv:R.v<=v2):SG c T w ob ib {R with v:=v2,ws:=Wm} nm T2 q w2:=by
 have h1:=h.new hf;have nT:∀b,¬T' b->b<w1.heap.size->¬T2 b:=fun b hb hl e=>(hR.2.2 b e).elim hb (fun h=>by omega)
 refine⟨hR.after h1.rp.2.1 h1.rp.2.2,h.fl,(hR.2.1.cell (p:=⟨ob,0,none⟩) h1.ol h1.ot).trans h1.o,(hR.2.1.frozen (p:=⟨ob,0,none⟩) h1.ol h1.ot).trans h1.oz,h1.ow.fr hR.2.1 (fun b hb=>(h1.qt b hb).1),h1.a.fr hR.2.1 h1.a.t (nT _ h1.a.t h1.il) hv,nT _ h1.ot h1.ol,h.on,fun b hb=>⟨nT _ (h1.qt b hb).1 (h1.ow.lt hb).2,(h1.qt b hb).2⟩⟩
end
structure SA (c:Rk) (T:Nat->Prop) (w:World) (ob ib gb sb:Nat) (R:KR) (nm:List Bs) (T':Nat->Prop) (q qa:ai) (args:List In) (vs:List Value) (wr:World):Prop where
 g:SG c T w ob ib R nm T' q wr
 gc:wr.cell? ⟨gb,0,none⟩=some qa.v
 gz:wr.frozen? ⟨gb,0,none⟩=false
 ga:gM w.heap.size qa args wr
 gt:¬T' gb
 gn:w.heap.size<=gb/\gb≠ob/\gb≠ib/\¬q.v.ownBlock=some gb
 qt:∀b,qa.v.ownBlock=some b->¬T' b/\b≠ob/\b≠ib/\b≠gb/\b≠sb/\¬q.v.ownBlock=some b
 st:¬T' sb
 sn:w.heap.size<=sb/\sb≠ob/\sb≠ib/\sb≠gb/\¬q.v.ownBlock=some sb
 s:∀j v,vs[j]?=some v->wr.cell? ⟨sb,j,none⟩=some v
 sl:sb<wr.heap.size
section
variable {c : Rk} {T T' S : Nat → Prop} {w wr w2 : World} {ob ib gb sb : Nat} {R : KR} {nm : List Bs} {q qa : ai} {args : List In} {vs : List Value}
theorem SA.gl (h:SA c T w ob ib gb sb R nm T' q qa args vs wr):gb<wr.heap.size:=lt_of_cell h.gc
theorem SA.fr (h:SA c T w ob ib gb sb R nm T' q qa args vs wr) (hf:Fr S wr w2) (hT:∀k,T' k->¬S k) (hO:¬S ob) (hI:¬S ib) (hG:¬S gb) (hB:¬S sb) (hq:∀b,q.v.ownBlock=some b->¬S b) (ha:∀b,qa.v.ownBlock=some b->¬S b) (hS:∀k,S k->w.heap.size<=k):SA c T w ob ib gb sb R nm T' q qa args vs w2:=
 ⟨h.g.fr hf hT hO hI hq hS,(hf.cell (p:=⟨gb,0,none⟩) h.gl hG).trans h.gc,(hf.frozen (p:=⟨gb,0,none⟩) h.gl hG).trans h.gz,h.ga.fr hf ha,h.gt,h.gn,h.qt,h.st,h.sn,fun j v hv=>(hf.cell (p:=⟨sb,j,none⟩) h.sl hB).trans (h.s j v hv),Nat.lt_of_lt_of_le h.sl hf.size⟩
theorem SA.new (h:SA c T w ob ib gb sb R nm T' q qa args vs wr) (hf:Fr nothing wr w2):SA c T w ob ib gb sb R nm T' q qa args vs w2:=h.fr hf (fun _ _=>id) id id id id (fun _ _=>id) (fun _ _=>id) (fun _ e=>e.elim)
theorem SA.call (h:SA c T w ob ib gb sb R nm T' q qa args vs wr) {w1:World} (hf:Fr nothing wr w1) {v2:Nat} {Wm:List Bs} {T2:Nat->Prop} (hR:RP c T' w1 v2 Wm T2 w2) (hv:R.v<=v2):SA c T w ob ib gb sb {R with v:=v2,ws:=Wm} nm T2 q qa args vs w2:=by
 have h1:=h.new hf;have nT:∀b,¬T' b->b<w1.heap.size->¬T2 b:=fun b hb hl e=>(hR.2.2 b e).elim hb (fun h=>by omega)
 exact⟨h.g.call hf hR hv,(hR.2.1.cell (p:=⟨gb,0,none⟩) h1.gl h1.gt).trans h1.gc,(hR.2.1.frozen (p:=⟨gb,0,none⟩) h1.gl h1.gt).trans h1.gz,h1.ga.fr hR.2.1 (fun b hb=>(h1.qt b hb).1),nT _ h1.gt h1.gl,h.gn,fun b hb=>⟨nT _ (h1.qt b hb).1 (h1.ga.lt hb).2,(h1.qt b hb).2⟩,nT _ h1.st h1.sl,h.sn,fun j v hv=>(hR.2.1.cell (p:=⟨sb,j,none⟩) h1.sl h1.st).trans (h1.s j v hv),Nat.lt_of_lt_of_le h1.sl hR.2.1.size⟩
theorem SG.begin (h:SG c T w ob ib R nm T' q wr) {a0:Value} (O:Obj) (hO:∃t cs,O=.cells cs t/\vs=cs.toList) (gt:TypeId) (_:a0=.slice none 0 0):SA c T w ob ib (wr.heap.size+1) wr.heap.size R nm T' q aN [] vs ((wr.alloc O).alloc (.cells #[a0] gt)):=by
 subst a0;have hf1:Fr nothing wr (wr.alloc O):=(Fr.refl _ _).alloc _;have hf2:Fr nothing (wr.alloc O) ((wr.alloc O).alloc (.cells #[.slice none 0 0] gt)):=(Fr.refl _ _).alloc _;have hm:=af (cs:=#[.slice none 0 0]) (t:=gt) (w:=wr.alloc O) (Fr.refl nothing _) id;have hsz:(wr.alloc O).heap.size=wr.heap.size+1:=by simp
 rw[hsz] at hm;have hn:=h.rp.1.tl;have hw:=h.rp.2.1.size;have ho:=h.ol;have hi:=h.il;obtain⟨t,cs,rfl,rfl⟩:=hO;have hs:=af (cs:=cs) (t:=t) (w:=wr) hf2 id;refine⟨(h.new hf1).new hf2,hm.1 0,hm.2.1 0,gM.nil _ _,fun e=>by have:=hn _ e;omega,⟨by omega,by omega,by omega,fun e=>by have:=(h.ow.lt e).2;omega⟩,fun b hb=>(by cases hb),fun e=>by have:=hn _ e;omega,⟨by omega,by omega,by omega,by omega,fun e=>by have:=(h.ow.lt e).2;omega⟩,fun j v hv=>?_,hs.2.2⟩
 rw[hs.1 j];simpa using hv
theorem SA.put (h:SA c T w ob ib gb sb R nm T' q qa args vs wr) {q3:ai} {ys:List In} (hs:Sl encI 3 wr q3.v ys) (hl:args.length+ys.length<=1000000):
 ∃(q4:ai) (w4:World),(Builtin.append_ #[77,77] 77 #[.slice qa.a qa.n qa.c,.slice q3.a q3.n q3.c]).run Tryz.prog wr=.ok (.slice q4.a q4.n q4.c) w4/\Fr (fun k=>qa.v.ownBlock=some k) wr w4/\SA c T w ob ib gb sb R nm T' q q4 (args++ys) vs (w4.setCell ⟨gb,0,none⟩ (.slice q4.a q4.n q4.c)):=by
 obtain⟨q4,w4,hrun,Rf,jW,Yu⟩:=h.ga.app hs h.g.rp.2.1.size hl;have hg4:=(jW.cell (p:=⟨gb,0,none⟩) h.gl (fun e=>(h.qt _ e).2.2.2.1 rfl)).trans h.gc;have hz4:=(jW.frozen (p:=⟨gb,0,none⟩) h.gl (fun e=>(h.qt _ e).2.2.2.1 rfl)).trans h.gz;obtain⟨e1,e2,cK⟩:=kW w4 gb 0 (.slice q4.a q4.n q4.c) hg4;have hS:Fr (fun k=>qa.v.ownBlock=some k\/k=gb) wr (w4.setCell ⟨gb,0,none⟩ (.slice q4.a q4.n q4.c)):=(jW.mono (fun _ _ e=> .inl e)).trans (cK.mono (fun _ _ e=> .inr e));have hq4:∀b,q4.v.ownBlock=some b->¬T' b/\b≠ob/\b≠ib/\b≠gb/\b≠sb/\¬q.v.ownBlock=some b:=fun b hb=>by
  rcases Yu b hb with e|e
  ·exact h.qt b e
  ·have:=h.g.ol;have:=h.g.il;have:=h.gl;have:=h.sl;exact⟨fun e=>by have:=h.g.rp.1.tl b e;omega,by omega,by omega,by omega,by omega,fun e=>by have:=(h.g.ow.lt e).2;omega⟩
 refine⟨q4,w4,hrun,jW,h.g.fr hS ?_ ?_ ?_ ?_ ?_,e1,by rw[World.frozen?_setCell];exact hz4,Rf.fr cK (fun b hb e=>(hq4 b hb).2.2.2.1 e),h.gt,h.gn,hq4,h.st,h.sn,fun j v hv=>(hS.cell (p:=⟨sb,j,none⟩) h.sl ?_).trans (h.s j v hv),Nat.lt_of_lt_of_le h.sl hS.size⟩
 ·rintro k hk (e|e)
  ·exact(h.qt k e).1 hk
  ·exact h.gt (e▸hk)
 ·rintro(e|e)
  ·exact(h.qt _ e).2.1 rfl
  ·exact h.gn.2.1 e.symm
 ·rintro(e|e)
  ·exact(h.qt _ e).2.2.1 rfl
  ·exact h.gn.2.2.1 e.symm
 ·rintro b hb (e|e)
  ·exact(h.qt _ e).2.2.2.2.2 hb
  ·exact h.gn.2.2.2 (e▸hb)
 ·rintro k (e|e)
  ·exact(h.ga.lt e).1
  ·rw[e];exact h.gn.1
 ·rintro(e|e)
  ·exact(h.qt _ e).2.2.2.2.1 rfl
  ·exact h.sn.2.2.2.1 e
theorem SA.out (h:SA c T w ob ib gb sb R nm T' q qa args vs wr) {q':ai} {is:List In} (hf:Fr (fun k=>k=ob\/qa.v.ownBlock=some k) wr w2) (hc:w2.cell? ⟨ob,0,none⟩=some q'.v) (hz:w2.frozen? ⟨ob,0,none⟩=false) (ho:gM wr.heap.size q' is w2):SG c T w ob ib {R with ins:=is} nm T' q' w2:=by
 obtain⟨k1,k2,k3⟩:=h.g.rp;have n1:∀k,w.heap.size<=k\/¬(k=ob\/qa.v.ownBlock=some k):=fun k=>by
  by_cases hk:w.heap.size<=k
  ·exact .inl hk
  ·refine .inr ?_
   rintro(e|e)
   ·have:=h.g.on.1;omega
   ·have:=(h.ga.lt e).1;omega
 refine⟨⟨k1.fr hf ?_ ?_,k2.then hf (fun k hk e=>by rcases n1 k with h|h;omega;exact absurd e h),k3⟩,h.g.fl,hc,hz,⟨ho.n,ho.row.mono k2.size⟩,h.g.a.fr hf ?_ h.g.a.t (Nat.le_refl _),h.g.ot,h.g.on,fun b hb=>?_⟩
 ·rintro k hk (e|e)
  ·exact h.g.ot (e▸hk)
  ·exact(h.qt k e).1 hk
 ·intro b hb e;rcases n1 b with h1|h1
  ·have:=h.g.fl b hb;omega
  ·exact h1 e
 ·rintro(e|e)
  ·exact h.g.on.2.2 e.symm
  ·exact(h.qt _ e).2.2.1 rfl
 ·have:=(ho.lt hb).1;have:=h.g.ol;have:=h.g.il;exact⟨fun e=>by have:=k1.tl b e;omega,by omega,by omega⟩
end
end
section
section
variable {c : Rk} {T T' S : Nat → Prop} {w wr w2 : World} {ob ib gb sb : Nat} {R : KR} {nm : List Bs} {q qa : ai} {args : List In} {vs : List Value}
theorem SA.one (h:SA c T w ob ib gb sb R nm T' q qa args vs wr) (op a:Int) (hop:op≠15/\op≠16) (hno:NF args) (hl1:R.ins.length<=300000) (hl2:args.length<=300000):
 Calls Tryz.prog 71 #[.int .i64 op,.int .i64 a,.pointer (some ⟨ob,0,none⟩),.pointer (some ⟨gb,0,none⟩)] wr fun e w'=>e=.returned (.tuple #[])/\∃q':ai,SG c T w ob ib {R with ins:=R.ins++(args++ [⟨op,a,0⟩])} nm T' q' w':=by
 refine(UI ob gb w.heap.size w.heap.size q qa R.ins args wr op a h.g.o h.g.ow h.gc h.ga h.g.rp.2.1.size (fun b hb=>⟨(h.qt b hb).2.1,(h.qt b hb).2.2.2.1,(h.qt b hb).2.2.2.2.2⟩) h.g.oz hl1 hl2 (hno.app (fun x hx=>by rw[List.mem_singleton.1 hx];exact hop))).mono ?_
 rintro e w' ⟨rfl,q',h1,h2,h3,h4⟩;exact⟨rfl,q',h.out h3 h1 h4 h2⟩
theorem NG.look {n:Nat} {E:Bs->Int} (h:NG ib E nm n T w) {t:Bs} (hm:t∈nm) (ht:t.length<=1500):(Instr.lookup 123 (.map (some ib)) (.string (bs t)) false).run Tryz.prog w=.ok (.int .i64 (E t)) w:=by
 obtain⟨A,a1,a2,_⟩:=h.m;rw[a1.look t (by omega),a2 t hm]
theorem SA.acL (h:SA c T w ob ib gb sb R nm T' q qa args vs wr) (t:Bs) (ht:t.length<=1500) (hv:R.v<=100000):
 ∃w1,(Instr.mapUpdate 123 (.map (some ib)) (.string (bs t)) (.int .i64 (R.v:Nat))).run Tryz.prog wr=.ok () w1/\Fr (fun k=>k=ib) wr w1/\w1.cell? ⟨c.mb,2,none⟩=some (.int .i64 (R.v:Nat))/\w1.frozen? ⟨c.mb,2,none⟩=false/\c.mb<w1.heap.size/\
  SA c T w ob ib gb sb {R with E:=upd R.E t R.v,v:=R.v+1} (nm++ [t]) T' q qa args vs (w1.setCell ⟨c.mb,2,none⟩ (.int .i64 (R.v+1:Nat))):=by
 obtain⟨A,a1,a2,a3⟩:=h.g.a.m;obtain⟨w1,hrun,b1,hf⟩:=a1.store t (by omega) R.v (by omega) (by omega) (by omega);obtain⟨k1,k2,k3⟩:=h.g.rp;have UH:∀k,T' k->¬k=ib:=fun k hk e=>h.g.a.t (e▸hk)
 have k1':=k1.fr hf UH (fun b hb e=>by have:=h.g.fl b hb;have:=h.g.on.2.1;omega);obtain⟨v1,v2⟩:=k1'.vars (R.v+1);have hF:Fr (fun k=>k=ib\/k=c.mb) wr (w1.setCell ⟨c.mb,2,none⟩ (.int .i64 (R.v+1:Nat))):=(hf.mono (fun _ _ e=> .inl e)).trans (v2.mono (fun _ _ e=> .inr e));have Wn:∀b,¬T' b->b≠c.mb:=fun b hb e=>hb (e▸k1.tm)
 refine⟨w1,hrun,hf,k1'.c2,k1'.fz 2,k1'.ml,⟨⟨v1,(k2.then hf (fun k hk e=>by have:=h.g.on.2.1;omega)).then v2 ?_,k3⟩,h.g.fl,?_,?_,h.g.ow.fr hF ?_,⟨⟨A.put t R.v,b1.fr v2 (Wn _ h.g.a.t),fun u hu=>?_,?_⟩,h.g.a.t⟩,h.g.ot,h.g.on,h.g.qt⟩,?_,?_,h.ga.fr hF ?_,h.gt,h.gn,h.qt,h.st,h.sn,fun j v hv=>?_,Nat.lt_of_lt_of_le h.sl hF.size⟩
 ·intro k hk e;rcases k3 c.mb k1.tm with h1|h1
  ·exact e▸h1
  ·omega
 ·refine(hF.cell (p:=⟨ob,0,none⟩) h.g.ol ?_).trans h.g.o
  rintro(e|e)
  ·exact h.g.on.2.2 e
  ·exact Wn _ h.g.ot e
 ·refine(hF.frozen (p:=⟨ob,0,none⟩) h.g.ol ?_).trans h.g.oz
  rintro(e|e)
  ·exact h.g.on.2.2 e
  ·exact Wn _ h.g.ot e
 ·rintro b hb (e|e)
  ·exact(h.g.qt b hb).2.2 e
  ·exact Wn _ (h.g.qt b hb).1 e
 ·simp only[dQ.put,upd]
  by_cases hx:u=t
  ·simp[hx]
  ·rcases List.mem_append.1 hu with hu|hu
   ·simp[hx,a2 u hu]
   ·exact absurd (List.mem_singleton.1 hu) hx
 ·unfold dQ.put;simp only;split<;>omega
 ·refine(hF.cell (p:=⟨gb,0,none⟩) h.gl ?_).trans h.gc
  rintro(e|e)
  ·exact h.gn.2.2.1 e
  ·exact Wn _ h.gt e
 ·refine(hF.frozen (p:=⟨gb,0,none⟩) h.gl ?_).trans h.gz
  rintro(e|e)
  ·exact h.gn.2.2.1 e
  ·exact Wn _ h.gt e
 ·rintro b hb (e|e)
  ·exact(h.qt b hb).2.2.1 e
  ·exact Wn _ (h.qt b hb).1 e
 ·refine(hF.cell (p:=⟨sb,j,none⟩) h.sl ?_).trans (h.s j v hv)
  rintro(e|e)
  ·exact h.sn.2.2.1 e
  ·exact Wn _ h.st e
end
def SP (c:Rk) (T:Nat->Prop) (w:World) (R:KR) (e:Ending) (w':World):Prop:=
 ∃(q:ai) (T':Nat->Prop),e=.returned (.slice q.a q.n q.c)/\gM w.heap.size q R.ins w'/\RP c T w R.v R.ws T' w'/\∀b,q.v.ownBlock=some b->¬T' b
mutual
def UJ:St->Prop
 |.mk k _ a x y=>1<=k/\k<=9/\Ci a/\vH x/\vH y
def vH:List St->Prop
 |[]=>True
 |s::l=>UJ s/\vH l
end
theorem Cm:∀{l:List St},vH l->∀x∈l,UJ x
 |y::l,h,x,hx=>by
  rw[vH] at h;rcases List.mem_cons.1 hx with rfl|hx
  ·exact h.1
  ·exact Cm h.2 x hx
def aa8 (l:List Fn) (L:List St):Prop:=∀(c:Rk) (T:Nat->Prop) (v:Nat) (ws:List Bs) (E:Bs->Int) (nm:List Bs) (ab:Nat) (sl:ai) (rs:List rU) (w:World),RI c T v ws w->wG c l->NG ab E nm v T w->Sl encS 5 w sl.v rs->(∀k,sl.v.ownBlock=some k->ap T w k)->Each (gy w (ap T w)) rs L->xD (Kb l) L nm->v+jq L<=100000->ws.length+jq L<=100000->jq L<=100000->(∀s∈L,uo s)->vH L->
 Calls Tryz.prog 59 #[.pointer (some ⟨c.mb,0,none⟩),.slice sl.a sl.n sl.c,.map (some ab)] w (SP c T w (dY (gW l) L E v ws 0))
theorem Dz (l:List St) (j:Nat) (hj:j<l.length):jq (l.take j)+Ap l[j]<=jq l:=by
 induction l generalizing j with
 |nil=>simp at hj
 |cons x l ih=>
  cases j with
  |zero=>simp[jq]
  |succ j=>
   have:=ih j (by simpa using hj);rw[List.take_succ_cons,jq,jq];simp only[List.getElem_cons_succ];omega
end
end Go.Proofs.YtbcadjgpcfmkfaaGreatDoor
