/- MSteps. -/
import Derived.Test.YtbcadjgpcfmkfaaGreatDoorPartU17
import Derived.Test.YtbcadjgpcfmkfaaGreatDoorPartU1
set_option maxHeartbeats 0
set_option maxRecDepth 100000
set_option linter.unusedSimpArgs false
namespace Go.Proofs.YtbcadjgpcfmkfaaGreatDoor
open Go Go.RowKit
section
section
variable {base mb : Nat} {x : Fx} {qf qh : ai} {rp : List aQ} {r : aQ} {m : Mc} {w : World}
abbrev aW (m:Mc) (ak:Nat):Mc:={m with f:={m.f with at_:=(ak:Int)+1},fuel:=m.fuel-1}
theorem Mt.var (h:Mt base mb x qf qh rp r m w) {n:Nat} {y:Val} (hy:m.f.vars[n]?=some y) (v:Val):
 ∃g,r.v.a=some ⟨g,0,none⟩/\g<w.heap.size/\Ob qf qh rp r g/\(w.cell? ⟨g,n*3,none⟩=some (.int .i64 y.k)/\w.cell? ⟨g,n*3+1,none⟩=some (.int .i64 y.n)/\w.cell? ⟨g,n*3+2,none⟩=some (.string (bs y.t)))/\(∀j,j<3->w.frozen? ⟨g,n*3+j,none⟩=false)/\
  Mt base mb x qf qh rp r {m with f:={m.f with vars:=m.f.vars.set n v}} (((w.setCell ⟨g,n*3,none⟩ (.int .i64 v.k)).setCell ⟨g,n*3+1,none⟩ (.int .i64 v.n)).setCell ⟨g,n*3+2,none⟩ (.string (bs v.t)))/\
  Fr (fun k=>r.v.ob=some k) w (((w.setCell ⟨g,n*3,none⟩ (.int .i64 v.k)).setCell ⟨g,n*3+1,none⟩ (.int .i64 v.n)).setCell ⟨g,n*3+2,none⟩ (.string (bs v.t))):=by
 have hn:=(List.getElem?_eq_some_iff.1 hy).1;obtain⟨yk,yn,yt⟩:=y;obtain⟨g,ga,-,gl,c0',z0,o1,f1⟩:=h.et.v.put aK (i:=n) (j:=0) (x:=⟨yk,yn,yt⟩) (x':=⟨v.k,yn,yt⟩) (u:=.int .i64 v.k) hy (by decide) rfl;have dF:r.v.ob=some g:=h.et.v.obs (by omega) ga;obtain⟨g1,a1,-,-,c1',z1,-⟩:=h.et.v.put aK (i:=n) (j:=1) (x:=⟨yk,yn,yt⟩) (x':=⟨yk,v.n,yt⟩) (u:=.int .i64 v.n) hy (by decide) rfl;obtain rfl:g=g1:=by have:=ga.symm.trans a1;simpa using this
 obtain⟨g1,a1,-,-,c2',z2,-⟩:=h.et.v.put aK (i:=n) (j:=2) (x:=⟨yk,yn,yt⟩) (x':=⟨yk,yn,v.t⟩) (u:=.string (bs v.t)) hy (by decide) rfl;obtain rfl:g=g1:=by have:=ga.symm.trans a1;simpa using this
 obtain⟨g2,a2,-,-,-,-,o2,f2⟩:=o1.put aK (i:=n) (j:=1) (x:=⟨v.k,yn,yt⟩) (x':=⟨v.k,v.n,yt⟩) (u:=.int .i64 v.n) (List.getElem?_set_self hn) (by decide) rfl;obtain rfl:g=g2:=by have:=ga.symm.trans a2;simpa using this
 obtain⟨g3,a3,-,-,-,-,o3,f3⟩:=o2.put aK (i:=n) (j:=2) (x:=⟨v.k,v.n,yt⟩) (x':=v) (u:=.string (bs v.t)) (List.getElem?_set_self (by rw[List.length_set];exact hn)) (by decide) rfl;obtain rfl:g=g3:=by have:=ga.symm.trans a3;simpa using this
 simp only[List.set_set] at o3;have hF:=((f1.trans f2).trans f3).mono (S':=fun k=>r.v.ob=some k) (fun k _ e=>by rw[e];exact dF)
 exact⟨g,ga,gl,.inr (.inr (.inl dF)),⟨c0',c1',c2'⟩,fun j hj=>(match j,hj with|0,_=>z0|1,_=>z1|2,_=>z2),h.vars hF o3,hF⟩
abbrev Z9 (m:Mc) (v:Val):Mc:={m with f:=bT m.f v}
inductive AL (base mb:Nat) (x:Fx) (qf qh:ai) (rp:List aQ) (r:aQ) (m:Mc) (w:World) (ak:Nat) (ia ib io:Int) (mq:Mc) (eq:Ev):Prop
 |VB {st:List Val} {a b:Val} (hst:m.f.stack=st++ [a,b]) (hs:st.length<=1000) (ha:(a.k=1->a.t.length<=60)/\(a.k=0->-1073741824<=a.n/\a.n<=1073741824)) (hb:(b.k=1->b.t.length<=60)/\(b.k=0->-1073741824<=b.n/\b.n<=1073741824)) (iX:io=5) (fe:mq=(if(iN ia a b).2≠0 then stk (aW m ak) st else stk (aW m ak) (st++ [(iN ia a b).1]))) (heq:eq=(if(iN ia a b).2≠0 then bQ (iN ia a b).2 else dB)):AL base mb x qf qh rp r m w ak ia ib io mq eq
 |O4 {st:List Val} {a b:Val} (hst:m.f.stack=st++ [a,b]) (hs:st.length<=1000) (hcl:-1000<=m.cells/\m.cells<=1000) (hpl:m.hp.length<=1000) (iX:io=6) (fe:mq=(if m.cells<1 then stk (aW m ak) st else{stk (aW m ak) (st++ [⟨2,m.hp.length,[]⟩]) with cells:=m.cells-1,hp:=m.hp++ [⟨a,b⟩]})) (heq:eq=(if m.cells<1 then bQ 13 else dB)):AL base mb x qf qh rp r m w ak ia ib io mq eq
 |KV {st:List Val} {v:Val} (hst:m.f.stack=st++ [v]) (hs:st.length<=1000) (hv:v.k=2->0<=v.n/\v.n<m.hp.length) (iX:io=7) (fe:mq=(if v.k≠2 then stk (aW m ak) st else stk (aW m ak) (st++ [(m.hp.getD v.n.toNat c0).l]))) (heq:eq=(if v.k≠2 then bQ 11 else dB)):AL base mb x qf qh rp r m w ak ia ib io mq eq
 |KW {st:List Val} {v:Val} (hst:m.f.stack=st++ [v]) (hs:st.length<=1000) (hv:v.k=2->0<=v.n/\v.n<m.hp.length) (iX:io=8) (fe:mq=(if v.k≠2 then stk (aW m ak) st else stk (aW m ak) (st++ [(m.hp.getD v.n.toNat c0).r]))) (heq:eq=(if v.k≠2 then bQ 11 else dB)):AL base mb x qf qh rp r m w ak ia ib io mq eq
 |O6 {st:List Val} {a b:Val} (hst:m.f.stack=st++ [a,b]) (hs:st.length<=1000) (hv:a.k=2->0<=a.n/\a.n<m.hp.length) (iX:io=9) (fe:mq=(if a.k≠2 then stk (aW m ak) st else{stk (aW m ak) st with hp:=m.hp.set a.n.toNat (⟨b,(m.hp.getD a.n.toNat c0).r⟩)})) (heq:eq=(if a.k≠2 then bQ 11 else dB)):AL base mb x qf qh rp r m w ak ia ib io mq eq
 |KX {st:List Val} {a b:Val} (hst:m.f.stack=st++ [a,b]) (hs:st.length<=1000) (hv:a.k=2->0<=a.n/\a.n<m.hp.length) (iX:io=10) (fe:mq=(if a.k≠2 then stk (aW m ak) st else{stk (aW m ak) st with hp:=m.hp.set a.n.toNat (⟨(m.hp.getD a.n.toNat c0).l,b⟩)})) (heq:eq=(if a.k≠2 then bQ 11 else dB)):AL base mb x qf qh rp r m w ak ia ib io mq eq
 |KY {st:List Val} {v:Val} (hst:m.f.stack=st++ [v]) (hs:st.length<=1000) (hh:-1000<=m.hops/\m.hops<=1000) (iX:io=13) (fe:mq=(if v.k≠1 then stk (aW m ak) st else if 0<m.hops then{stk (aW m ak) st with hops:=m.hops-1} else stk (aW m ak) (st++ [v0]))) (heq:eq=(if v.k≠1 then bQ 11 else if 0<m.hops then⟨3,v.t,0⟩ else dB)):AL base mb x qf qh rp r m w ak ia ib io mq eq
 |VC {st:List Val} {v:Val} (hst:m.f.stack=st++ [v]) (hs:st.length<=1000) {fs:List (Bs×Val)} (hfs:∀w',Fr (fun k=>Ob qf qh rp r k\/k=mb) w w'->Sl kF 4 w' x.cu.v fs) (iX:io=11) (fe:mq=(if v.k≠1 then stk (aW m ak) st else stk (aW m ak) (st++ [jk fs v.t]))) (heq:eq=(if v.k≠1 then bQ 11 else dB)):AL base mb x qf qh rp r m w ak ia ib io mq eq
 |O7 {st xs:List Val} (hst:m.f.stack=st++xs) (hs:st.length<=1000) {gk n:Nat} {cg:Cz} (hia:ia=gk) (hib:ib=xs.length) (hx:xs.length<=n) (hn:n<=8) (hcg:m.pg.cs[gk]?=some cg) (hnv:cg.nv=n) (iX:io=17) (fe:mq=(if 12<=rp.length+1 then aW m ak else{stk (aW m ak) st with pre:=m.pre++ [{m.f with at_:=(ak:Int)+1,stack:=st}],f:=⟨gk,0,xs++List.replicate (n-xs.length) v0,[]⟩})) (heq:eq=(if 12<=rp.length+1 then bQ 9 else dB)):AL base mb x qf qh rp r m w ak ia ib io mq eq
 |VD (hsl:m.f.stack.length<=100000) (iX:io=1) (fe:mq=(Z9 (aW m ak) ⟨0,ia,[]⟩)) (heq:eq=(dB)):AL base mb x qf qh rp r m w ak ia ib io mq eq
 |KZ (hsl:m.f.stack.length<=100000) (hnm:x.nm.length<=1000000) (iX:io=12) (fe:mq=(Z9 (aW m ak) (ji x.nm))) (heq:eq=(dB)):AL base mb x qf qh rp r m w ak ia ib io mq eq
 |VE {st:List Val} {v:Val} (hst:m.f.stack=st++ [v]) (hs:st.length<=1000) (iX:io=19) (fe:mq=(stk (aW m ak) st)) (heq:eq=(dB)):AL base mb x qf qh rp r m w ak ia ib io mq eq
 |VF {st:List Val} {v:Val} (hst:m.f.stack=st++ [v]) (hs:st.length<=1000) (ht:∀w',Fr (fun k=>Ob qf qh rp r k\/k=mb) w w'->Cl.rC w') (hc0:∀c∈m.hp,cellC m.hp.length c=0) (hv:ah m.hp.length v=0) (Oo:m.hp.length<=1000) (iX:io=14) (fe:mq=(stk (aW m ak) st)) (heq:eq=(⟨2,fZ m.hp v,0⟩)):AL base mb x qf qh rp r m w ak ia ib io mq eq
 |O8 (iX:io=15) (fe:mq=({aW m ak with f:={m.f with at_:=ia}})) (heq:eq=(dB)):AL base mb x qf qh rp r m w ak ia ib io mq eq
 |EG {st:List Val} {v:Val} (hst:m.f.stack=st++ [v]) (hs:st.length<=1000) (hk:v.k≠0) (iX:io=16) (fe:mq=(stk (aW m ak) st)) (heq:eq=(dB)):AL base mb x qf qh rp r m w ak ia ib io mq eq
 |EH {st:List Val} {v:Val} (hst:m.f.stack=st++ [v]) (hs:st.length<=1000) (hk:v.k=0) (hn:v.n≠0) (iX:io=16) (fe:mq=(stk (aW m ak) st)) (heq:eq=(dB)):AL base mb x qf qh rp r m w ak ia ib io mq eq
 |BL {st:List Val} {v:Val} (hst:m.f.stack=st++ [v]) (hs:st.length<=1000) (hk:v.k=0) (hn:v.n=0) (iX:io=16) (fe:mq=({stk (aW m ak) st with f:={m.f with at_:=ia,stack:=st}})) (heq:eq=(dB)):AL base mb x qf qh rp r m w ak ia ib io mq eq
 |o_load (hsl:m.f.stack.length<=100000) {y:Val} (hy:m.f.vars[ia.toNat]?=some y) (hia:0<=ia/\ia<m.f.vars.length) (iX:io=3) (fe:mq=(Z9 (aW m ak) y)) (heq:eq=(dB)):AL base mb x qf qh rp r m w ak ia ib io mq eq
 |O9 (hsl:m.f.stack.length<=100000) {t:Bs} (ht0:m.pg.ws[ia.toNat]?=some t) (hia:0<=ia/\ia<m.pg.ws.length) (htl:t.length<=1000000) (iX:io=2) (fe:mq=(Z9 (aW m ak) (ji t))) (heq:eq=(dB)):AL base mb x qf qh rp r m w ak ia ib io mq eq
 |Pb {st:List Val} {v:Val} (hst:m.f.stack=st++ [v]) (hs:st.length<=1000) {VG:List aQ} {r':aQ} {pre:List Fm} {gf:Fm} (K3:rp=VG++ [r']) (hpre:m.pre=pre++ [gf]) (hgf:gf.stack.length<=1000) (iX:io=18) (fe:mq=({aW m ak with pre:=pre,f:=bT gf v})) (heq:eq=(dB)):AL base mb x qf qh rp r m w ak ia ib io mq eq
theorem bH (h:Mt base mb x qf qh rp r m w) (hl:rp.length<=1000) {fk ak:Nat} (hfn:m.f.fn=fk) (hat:m.f.at_=ak) (hak:ak<=100000) {c:Cz} (hc:m.pg.cs[fk]?=some c) {ia ib io:Int} (hi:c.ins[ak]?=some ⟨io,ia,ib⟩) (hfu:1<=m.fuel/\m.fuel<=1000000) (hP:∀w',Fr (fun k=>Ob qf qh rp r k\/k=mb) w w'->iq w' x.sc x.sw m.pg) {mq:Mc} {eq:Ev} (hop:AL base mb x qf qh rp r m w ak ia ib io mq eq):
 Calls Tryz.prog 18 #[.pointer (some ⟨mb,0,none⟩)] w (MR base mb x (Ob qf qh rp r) w mq eq):=by
 have FA:Fr nothing w (w.alloc (.cells #[.int .i64 0,.string ⟨#[]⟩,.int .i64 0] 39)):=(Fr.refl _ _).alloc _;have mA:=af (Fr.refl nothing (w.alloc (.cells #[.int .i64 0,.string ⟨#[]⟩,.int .i64 0] 39))) id;have dF:∀k,Ob qf qh rp r k->k<w.heap.size:=fun k hk=>(h.ob hk).2
 have hnb:¬(Ob qf qh rp r w.heap.size\/w.heap.size=mb):=fun e=>by
  rcases e with e|e
  ·have:=dF _ e;omega
  ·have:=h.mw;omega
 obtain⟨wA,iU⟩:∃y,y=w.alloc (.cells #[.int .i64 0,.string ⟨#[]⟩,.int .i64 0] 39):=⟨_,rfl⟩
 rw[<-iU] at FA mA;have bV:Hid (∀w',Fr (fun k=>Ob qf qh rp r k\/k=mb) wA w'->w'.cell? ⟨w.heap.size,0,none⟩=some (.int .i64 0)/\w'.cell? ⟨w.heap.size,1,none⟩=some (.string ⟨#[]⟩)/\w'.cell? ⟨w.heap.size,2,none⟩=some (.int .i64 0)/\(w'.frozen? ⟨w.heap.size,0,none⟩=false/\w'.frozen? ⟨w.heap.size,1,none⟩=false/\w'.frozen? ⟨w.heap.size,2,none⟩=false)/\w.heap.size<w'.heap.size):=fun w' hf=>by
  have hc:∀j,w'.cell? ⟨w.heap.size,j,none⟩=_:=fun j=>(hf.cell (p:=⟨w.heap.size,j,none⟩) mA.2.2 hnb).trans (mA.1 j)
  have hz:∀j,w'.frozen? ⟨w.heap.size,j,none⟩=_:=fun j=>(hf.frozen (p:=⟨w.heap.size,j,none⟩) mA.2.2 hnb).trans (mA.2.1 j)
  exact⟨hc 0,hc 1,hc 2,⟨hz 0,hz 1,hz 2⟩,Nat.lt_of_lt_of_le mA.2.2 hf.size⟩
 have H0:=hide (h.new FA);have dL:=hide FA;have zA:wA.heap.size=w.heap.size+1:=by rw[iU];simp
 have pQ:=iU.symm;have HH:=hide h;have KO:=hide (lY H0.out hl);have Tz:=hide hP;clear h FA mA iU hP
 go_enter Tryz.func18,Tryz.ntmps18
 go_wp2_with (go_at_call 38;refine KO.out.mono ?_;rintro e w2 ⟨⟨g,hg,rfl⟩,hf2⟩;have bq:=hide hf2;have HG:=hide hg;clear hf2 hg)
 have H2:=H0.out.new bq.out;have Mf:Hid (Fr (fun k=>Ob qf qh rp r k\/k=mb) w w2):=(dL.out.trans bq.out).mono (fun _ _ e=>e.elim);obtain⟨g',hg',gl,Mx,⟨f0,f1,f2⟩,fz,-,-⟩:=H2.goes 0;obtain rfl:g=g':=by have:=HG.out.symm.trans hg';simpa using this
 rw[hfn] at f0;rw[hat] at f1;have c2:=H2.c2;have c6:=H2.c6;have cm:=H2.ml;have VH:=H2.z 6;have hgm:g≠mb:=H2.nm g Mx;obtain⟨⟨rs,hrs,kM⟩,-⟩:=Tz.out w2 Mf.out;obtain⟨n1,m1⟩:=ay hrs;rw[kM.1] at n1 m1;have hlc:=(List.getElem?_eq_some_iff.1 hc).1;obtain⟨rc,hrc⟩:∃y,rs[fk]?=some y:=⟨_,List.getElem?_eq_getElem (by rw[kM.1];exact hlc)⟩
 have hok:=kM.2 fk rc c hrc hc;obtain⟨cg,co,ec,Gj,-,-,y2⟩:=fB (s:=x.sc) hrs hrc;obtain⟨n2,m2⟩:=ay hok.s;have hli:=(List.getElem?_eq_some_iff.1 hi).1;obtain⟨ig,jo,ei,K4,u0,u1,u2⟩:=iB (s:=rc.s) hok.s hi;simp only at u0 u1 u2;rw[ei,n2] at y2;rw[ec,n1] at c2;have hb1:(fk:Int)<(m.pg.cs.length:Int):=by omega
 have hb2:(ak:Int)<(c.ins.length:Int):=by omega
 have hw1:IntKind.i64.wrap ((ak:Int)+1)=(ak:Int)+1:=aO _ (by omega) (by omega);have hw2:IntKind.i64.wrap (m.fuel-1)=m.fuel-1:=aO _ (by omega) (by omega);have iL:Hid (∀w',Fr nothing w2 w'->(w'.cell? ⟨mb,2,none⟩=some (.slice (some ⟨cg,co,none⟩) m.pg.cs.length x.sc.c)/\w'.cell? ⟨g,rp.length*4,none⟩=some (.int .i64 fk)/\w'.cell? ⟨g,rp.length*4+1,none⟩=some (.int .i64 ak))/\w'.cell? ⟨cg,co+fk*3+2,none⟩=some (.slice (some ⟨ig,jo,none⟩) c.ins.length rc.s.c)/\w'.cell? ⟨ig,jo+ak*3,none⟩=some (.int .i64 io)/\w'.cell? ⟨ig,jo+ak*3+1,none⟩=some (.int .i64 ia)/\w'.cell? ⟨ig,jo+ak*3+2,none⟩=some (.int .i64 ib)):=fun w' hf=>⟨⟨(hf.cell (p:=⟨mb,2,none⟩) cm id).trans c2,(hf.cell (p:=⟨g,_,none⟩) gl id).trans f0,(hf.cell (p:=⟨g,_,none⟩) gl id).trans f1⟩,(hf.cell (p:=⟨cg,_,none⟩) Gj id).trans y2,(hf.cell (p:=⟨ig,_,none⟩) K4 id).trans u0,(hf.cell (p:=⟨ig,_,none⟩) K4 id).trans u1,(hf.cell (p:=⟨ig,_,none⟩) K4 id).trans u2⟩
 have hS2:=iL.out _ (Fr.refl nothing w2).drew;have FI:Fr nothing w2 (w2.alloc (.cells #[.int .i64 io,.int .i64 ia,.int .i64 ib] 82)).drew:=((Fr.refl nothing w2).alloc _).drew;have mI:=af (w:=w2) (cs:=#[.int .i64 io,.int .i64 ia,.int .i64 ib]) (t:=82) (w1:=(w2.alloc (.cells #[.int .i64 io,.int .i64 ia,.int .i64 ib] 82)).drew) (S:=nothing) ((Fr.refl nothing _).drew) id;have H3:=H2.new FI;obtain⟨g3,hg3,gl3,-,-,-,H4,gm⟩:=H3.goes (ak+1);obtain rfl:g=g3:=by have:=HG.out.symm.trans hg3;simpa using this
 obtain⟨H5,cK⟩:=H4.fue (m.fuel-1);have iV:=hide H5;have aX:Hid (Fr (fun k=>Ob qf qh rp r k\/k=mb) wA (((w2.alloc (.cells #[.int .i64 io,.int .i64 ia,.int .i64 ib] 82)).drew.setCell ⟨g,rp.length*4+1,none⟩ (.int .i64 (ak+1))).setCell ⟨mb,6,none⟩ (.int .i64 (m.fuel-1)))):=(((bq.out.trans FI).mono (fun _ _ e=>e.elim)).trans (gm.mono (fun k _ e=> .inl (by rw[e];exact Mx)))).trans (cK.mono (fun k _ e=> .inr e))
 have hI:∀j,(((w2.alloc (.cells #[.int .i64 io,.int .i64 ia,.int .i64 ib] 82)).drew.setCell ⟨g,rp.length*4+1,none⟩ (.int .i64 (ak+1))).setCell ⟨mb,6,none⟩ (.int .i64 (m.fuel-1))).cell? ⟨w2.heap.size,j,none⟩=_:=fun j=>(cK.cell (p:=⟨w2.heap.size,j,none⟩) (Nat.lt_of_lt_of_le mI.2.2 gm.size) (fun e=>by have e':w2.heap.size=mb:=e;omega)).trans ((gm.cell (p:=⟨w2.heap.size,j,none⟩) mI.2.2 (fun e=>by have e':w2.heap.size=g:=e;omega)).trans (mI.1 j))
 have il:w2.heap.size<(((w2.alloc (.cells #[.int .i64 io,.int .i64 ia,.int .i64 ib] 82)).drew.setCell ⟨g,rp.length*4+1,none⟩ (.int .i64 (ak+1))).setCell ⟨mb,6,none⟩ (.int .i64 (m.fuel-1))).heap.size:=Nat.lt_of_lt_of_le (Nat.lt_of_lt_of_le mI.2.2 gm.size) cK.size;have HI:=hide hI;have sG:=hide f1;clear hI mI H3 H4 H5 gm cK FI H2 c2 f0 f1 f2 y2 u0 u1 u2 hrs kM hrc hok n1 m1 hg' hg3 gl3;refine wp_region_held_drew (S:=fun w'=>(w'.cell? ⟨mb,2,none⟩=some (.slice (some ⟨cg,co,none⟩) m.pg.cs.length x.sc.c)/\w'.cell? ⟨g,rp.length*4,none⟩=some (.int .i64 fk)/\w'.cell? ⟨g,rp.length*4+1,none⟩=some (.int .i64 ak))/\w'.cell? ⟨cg,co+fk*3+2,none⟩=some (.slice (some ⟨ig,jo,none⟩) c.ins.length rc.s.c)/\w'.cell? ⟨ig,jo+ak*3,none⟩=some (.int .i64 io)/\w'.cell? ⟨ig,jo+ak*3+1,none⟩=some (.int .i64 ia)/\w'.cell? ⟨ig,jo+ak*3+2,none⟩=some (.int .i64 ib)) (by kernel_rfl) hS2 (fun hHeld=>?_)
 refine tk 0 ?_
 refine tk 1 ?_
 refine tk 2 ?_
 refine tk 3 ?_
 refine tk 4 ?_
 refine tk 5 ?_
 refine tk 6 ?_
 refine tk 7 ?_
 refine tk 8 ?_
 refine tk 9 ?_
 refine tk 10 ?_
 refine tk 11 ?_
 refine tk 12 ?_
 refine tk 13 ?_
 refine tk 14 ?_
 refine tk 15 ?_
 refine tk 16 ?_
 refine tk 17 ?_
 refine tk 18 ?_
 refine iP 19 (fun K hK=>?_)
 go_simp;refine hK _ _ (iL.out _ ((Fr.refl nothing w2).alloc _).drew) (fun _=>?_)
 clear hK K hHeld
 try simp only[Act.put,sA,sZ,sS]
 refine iP 20 (fun K hK=>?_)
 go_simp;refine hK _ _ (iL.out _ ((Fr.refl nothing w2).alloc _).drew) (fun _=>?_)
 clear hK K
 try simp only[Act.put,sA,sZ,sS]
 refine wpAnyH_done (by kernel_rfl) ?_ _
 clear iL hS2;have c6':=(((Fr.refl nothing w2).alloc (.cells #[.int .i64 io,.int .i64 ia,.int .i64 ib] 82)).drew.cell (p:=⟨mb,6,none⟩) cm id).trans c6;have x1:=(((Fr.refl nothing w2).alloc (.cells #[.int .i64 io,.int .i64 ia,.int .i64 ib] 82)).drew.cell (p:=⟨g,rp.length*4+1,none⟩) gl id).trans sG.out;have fz3:=(((Fr.refl nothing w2).alloc (.cells #[.int .i64 io,.int .i64 ia,.int .i64 ib] 82)).drew.frozen (p:=⟨g,rp.length*4+1,none⟩) gl id).trans fz;have cz3:=(((Fr.refl nothing w2).alloc (.cells #[.int .i64 io,.int .i64 ia,.int .i64 ib] 82)).drew.frozen (p:=⟨mb,6,none⟩) cm id).trans VH;generalize(w2.alloc (.cells #[.int .i64 io,.int .i64 ia,.int .i64 ib] 82)).drew=w3 at*
 go_upto_region 5 with fail
 have dU:=aX;have gp:Hid (Mt base mb x qf qh rp {r with at_:=(ak:Int)+1} (aW m ak) ((w3.setCell ⟨g,rp.length*4+1,none⟩ (.int .i64 (ak+1))).setCell ⟨mb,6,none⟩ (.int .i64 (m.fuel-1)))):=iV;have hi0:=HI.out 0;have hi1:=HI.out 1;have hi2:=HI.out 2;clear iV aX HI sG x1 c6' c6 VH fz fz3 cz3;generalize(w3.setCell ⟨g,rp.length*4+1,none⟩ (.int .i64 (ak+1))).setCell ⟨mb,6,none⟩ (.int .i64 (m.fuel-1))=w5 at*;cases hop with
 |@VB st a b hst hs ha hb iX fe heq=>
  subst iX
  as_aux_lemma=>
   have HC:Hid (∀w5,Mt base mb x qf qh rp {r with at_:=(ak:Int)+1} (aW m ak) w5->Calls Tryz.prog 41 #[.pointer (some ⟨mb,0,none⟩),.int .i64 ia] w5 (MR base mb x (Ob qf qh rp r) w5 mq eq)):=fun w5 h5=>by
    rw[fe,heq];exact OJ h5 hl ia hst hs ha hb
   clear fe heq
   go_wp2_with (first
    |(go_at_call 41;refine(HC.out _ gp.out).mono ?_;rintro e w6 hMR;obtain⟨rfl,⟨AB,uu,rp',r',fD,sH⟩,fK⟩:=hMR;have gI:=hide fD;have qN:=hide sH;have oJ:=dU.out.size;have bg:Hid (Fr (fun k=>Ob qf qh rp r k\/k=mb) wA w6):=dU.out.trans fK;obtain⟨n0,n1,n2,⟨z0,z1,z2⟩,nl⟩:=bV.out w6 bg.out;clear fD sH fK))
   refine bodyPost_ret (v:=je eq) (by simp[results,Tryz.results18,go_sem,n0,n1,n2]) rfl ?_
   exact MR.fin HH.out.bl HH.out.ml dL.out bg.out gI.out (fun k hk=>(qN.out k hk).imp id (fun e=>by omega)) dF _ _ _
 |@O4 st a b hst hs hcl hpl iX fe heq=>
  subst iX
  as_aux_lemma=>
   have HC:Hid (∀w5,Mt base mb x qf qh rp {r with at_:=(ak:Int)+1} (aW m ak) w5->Calls Tryz.prog 42 #[.pointer (some ⟨mb,0,none⟩)] w5 (MR base mb x (Ob qf qh rp r) w5 mq eq)):=fun w5 h5=>by
    rw[fe,heq];exact Mm h5 hl hst hs hcl hpl
   clear fe heq
   go_wp2_with (first
    |(go_at_call 42;refine(HC.out _ gp.out).mono ?_;rintro e w6 hMR;obtain⟨rfl,⟨AB,uu,rp',r',fD,sH⟩,fK⟩:=hMR;have gI:=hide fD;have qN:=hide sH;have oJ:=dU.out.size;have bg:Hid (Fr (fun k=>Ob qf qh rp r k\/k=mb) wA w6):=dU.out.trans fK;obtain⟨n0,n1,n2,⟨z0,z1,z2⟩,nl⟩:=bV.out w6 bg.out;clear fD sH fK))
   refine bodyPost_ret (v:=je eq) (by simp[results,Tryz.results18,go_sem,n0,n1,n2]) rfl ?_
   exact MR.fin HH.out.bl HH.out.ml dL.out bg.out gI.out (fun k hk=>(qN.out k hk).imp id (fun e=>by omega)) dF _ _ _
 |@KV st v hst hs hv iX fe heq=>
  subst iX
  as_aux_lemma=>
   have HC:Hid (∀w5,Mt base mb x qf qh rp {r with at_:=(ak:Int)+1} (aW m ak) w5->Calls Tryz.prog 43 #[.pointer (some ⟨mb,0,none⟩),.int .i64 7] w5 (MR base mb x (Ob qf qh rp r) w5 mq eq)):=fun w5 h5=>by
    rw[fe,heq];exact BF h5 hl 7 hst hs hv
   clear fe heq
   go_wp2_with (first
    |(go_at_call 43;refine(HC.out _ gp.out).mono ?_;rintro e w6 hMR;obtain⟨rfl,⟨AB,uu,rp',r',fD,sH⟩,fK⟩:=hMR;have gI:=hide fD;have qN:=hide sH;have oJ:=dU.out.size;have bg:Hid (Fr (fun k=>Ob qf qh rp r k\/k=mb) wA w6):=dU.out.trans fK;obtain⟨n0,n1,n2,⟨z0,z1,z2⟩,nl⟩:=bV.out w6 bg.out;clear fD sH fK))
   refine bodyPost_ret (v:=je eq) (by simp[results,Tryz.results18,go_sem,n0,n1,n2]) rfl ?_
   exact MR.fin HH.out.bl HH.out.ml dL.out bg.out gI.out (fun k hk=>(qN.out k hk).imp id (fun e=>by omega)) dF _ _ _
 |@KW st v hst hs hv iX fe heq=>
  subst iX
  as_aux_lemma=>
   have HC:Hid (∀w5,Mt base mb x qf qh rp {r with at_:=(ak:Int)+1} (aW m ak) w5->Calls Tryz.prog 43 #[.pointer (some ⟨mb,0,none⟩),.int .i64 8] w5 (MR base mb x (Ob qf qh rp r) w5 mq eq)):=fun w5 h5=>by
    rw[fe,heq];exact BF h5 hl 8 hst hs hv
   clear fe heq
   go_wp2_with (first
    |(go_at_call 43;refine(HC.out _ gp.out).mono ?_;rintro e w6 hMR;obtain⟨rfl,⟨AB,uu,rp',r',fD,sH⟩,fK⟩:=hMR;have gI:=hide fD;have qN:=hide sH;have oJ:=dU.out.size;have bg:Hid (Fr (fun k=>Ob qf qh rp r k\/k=mb) wA w6):=dU.out.trans fK;obtain⟨n0,n1,n2,⟨z0,z1,z2⟩,nl⟩:=bV.out w6 bg.out;clear fD sH fK))
   refine bodyPost_ret (v:=je eq) (by simp[results,Tryz.results18,go_sem,n0,n1,n2]) rfl ?_
   exact MR.fin HH.out.bl HH.out.ml dL.out bg.out gI.out (fun k hk=>(qN.out k hk).imp id (fun e=>by omega)) dF _ _ _
 |@O6 st a b hst hs hv iX fe heq=>
  subst iX
  as_aux_lemma=>
   have HC:Hid (∀w5,Mt base mb x qf qh rp {r with at_:=(ak:Int)+1} (aW m ak) w5->Calls Tryz.prog 44 #[.pointer (some ⟨mb,0,none⟩),.int .i64 9] w5 (MR base mb x (Ob qf qh rp r) w5 mq eq)):=fun w5 h5=>by
    rw[fe,heq];exact ED h5 hl 9 hst hs hv
   clear fe heq
   go_wp2_with (first
    |(go_at_call 44;refine(HC.out _ gp.out).mono ?_;rintro e w6 hMR;obtain⟨rfl,⟨AB,uu,rp',r',fD,sH⟩,fK⟩:=hMR;have gI:=hide fD;have qN:=hide sH;have oJ:=dU.out.size;have bg:Hid (Fr (fun k=>Ob qf qh rp r k\/k=mb) wA w6):=dU.out.trans fK;obtain⟨n0,n1,n2,⟨z0,z1,z2⟩,nl⟩:=bV.out w6 bg.out;clear fD sH fK))
   refine bodyPost_ret (v:=je eq) (by simp[results,Tryz.results18,go_sem,n0,n1,n2]) rfl ?_
   exact MR.fin HH.out.bl HH.out.ml dL.out bg.out gI.out (fun k hk=>(qN.out k hk).imp id (fun e=>by omega)) dF _ _ _
 |@KX st a b hst hs hv iX fe heq=>
  subst iX
  as_aux_lemma=>
   have HC:Hid (∀w5,Mt base mb x qf qh rp {r with at_:=(ak:Int)+1} (aW m ak) w5->Calls Tryz.prog 44 #[.pointer (some ⟨mb,0,none⟩),.int .i64 10] w5 (MR base mb x (Ob qf qh rp r) w5 mq eq)):=fun w5 h5=>by
    rw[fe,heq];exact ED h5 hl 10 hst hs hv
   clear fe heq
   go_wp2_with (first
    |(go_at_call 44;refine(HC.out _ gp.out).mono ?_;rintro e w6 hMR;obtain⟨rfl,⟨AB,uu,rp',r',fD,sH⟩,fK⟩:=hMR;have gI:=hide fD;have qN:=hide sH;have oJ:=dU.out.size;have bg:Hid (Fr (fun k=>Ob qf qh rp r k\/k=mb) wA w6):=dU.out.trans fK;obtain⟨n0,n1,n2,⟨z0,z1,z2⟩,nl⟩:=bV.out w6 bg.out;clear fD sH fK))
   refine bodyPost_ret (v:=je eq) (by simp[results,Tryz.results18,go_sem,n0,n1,n2]) rfl ?_
   exact MR.fin HH.out.bl HH.out.ml dL.out bg.out gI.out (fun k hk=>(qN.out k hk).imp id (fun e=>by omega)) dF _ _ _
 |@KY st v hst hs hh iX fe heq=>
  subst iX
  as_aux_lemma=>
   have HC:Hid (∀w5,Mt base mb x qf qh rp {r with at_:=(ak:Int)+1} (aW m ak) w5->Calls Tryz.prog 46 #[.pointer (some ⟨mb,0,none⟩)] w5 (MR base mb x (Ob qf qh rp r) w5 mq eq)):=fun w5 h5=>by
    rw[fe,heq];exact H7 h5 hl hst hs hh
   clear fe heq
   go_wp2_with (first
    |(go_at_call 46;refine(HC.out _ gp.out).mono ?_;rintro e w6 hMR;obtain⟨rfl,⟨AB,uu,rp',r',fD,sH⟩,fK⟩:=hMR;have gI:=hide fD;have qN:=hide sH;have oJ:=dU.out.size;have bg:Hid (Fr (fun k=>Ob qf qh rp r k\/k=mb) wA w6):=dU.out.trans fK;obtain⟨n0,n1,n2,⟨z0,z1,z2⟩,nl⟩:=bV.out w6 bg.out;clear fD sH fK))
   refine bodyPost_ret (v:=je eq) (by simp[results,Tryz.results18,go_sem,n0,n1,n2]) rfl ?_
   exact MR.fin HH.out.bl HH.out.ml dL.out bg.out gI.out (fun k hk=>(qN.out k hk).imp id (fun e=>by omega)) dF _ _ _
 |@VC st v hst hs fs hfs iX fe heq=>
  subst iX
  as_aux_lemma=>
   have HC:Hid (∀w5,Fr (fun k=>Ob qf qh rp r k\/k=mb) w w5->Mt base mb x qf qh rp {r with at_:=(ak:Int)+1} (aW m ak) w5->Calls Tryz.prog 45 #[.pointer (some ⟨mb,0,none⟩)] w5 (MR base mb x (Ob qf qh rp r) w5 mq eq)):=fun w5 cK h5=>by
    rw[fe,heq];exact OO h5 hl hst hs (fun w' hf'=>hfs w' (cK.trans hf'))
   clear fe heq;have Xo:=(dL.out.mono (S':=fun k=>Ob qf qh rp r k\/k=mb) (fun _ _ e=>e.elim)).trans dU.out
   go_wp2_with (first
    |(go_at_call 45;refine(HC.out _ Xo gp.out).mono ?_;rintro e w6 hMR;obtain⟨rfl,⟨AB,uu,rp',r',fD,sH⟩,fK⟩:=hMR;have gI:=hide fD;have qN:=hide sH;have oJ:=dU.out.size;have bg:Hid (Fr (fun k=>Ob qf qh rp r k\/k=mb) wA w6):=dU.out.trans fK;obtain⟨n0,n1,n2,⟨z0,z1,z2⟩,nl⟩:=bV.out w6 bg.out;clear fD sH fK))
   refine bodyPost_ret (v:=je eq) (by simp[results,Tryz.results18,go_sem,n0,n1,n2]) rfl ?_
   exact MR.fin HH.out.bl HH.out.ml dL.out bg.out gI.out (fun k hk=>(qN.out k hk).imp id (fun e=>by omega)) dF _ _ _
 |@O7 st xs hst hs gk n cg hia hib hx hn hcg hnv iX fe heq=>
  subst iX
  as_aux_lemma=>
   have HIA:=hide (And.intro hia hib);clear hia hib;have HC:Hid (∀w5,Fr (fun k=>Ob qf qh rp r k\/k=mb) w w5->Mt base mb x qf qh rp {r with at_:=(ak:Int)+1} (aW m ak) w5->Calls Tryz.prog 48 #[.pointer (some ⟨mb,0,none⟩),.int .i64 ia,.int .i64 ib] w5 (MR base mb x (Ob qf qh rp r) w5 mq eq)):=fun w5 cK h5=>by
    rw[fe,heq];exact(by obtain⟨rfl,rfl⟩:=HIA.out;exact Mq h5 hl hst hs hx hn hcg hnv (fun w' hf'=>Tz.out w' (cK.trans hf')))
   clear fe heq;have Xo:=(dL.out.mono (S':=fun k=>Ob qf qh rp r k\/k=mb) (fun _ _ e=>e.elim)).trans dU.out
   go_wp2_with (first
    |(go_at_call 48;refine(HC.out _ Xo gp.out).mono ?_;rintro e w6 hMR;obtain⟨rfl,⟨AB,uu,rp',r',fD,sH⟩,fK⟩:=hMR;have gI:=hide fD;have qN:=hide sH;have oJ:=dU.out.size;have bg:Hid (Fr (fun k=>Ob qf qh rp r k\/k=mb) wA w6):=dU.out.trans fK;obtain⟨n0,n1,n2,⟨z0,z1,z2⟩,nl⟩:=bV.out w6 bg.out;clear fD sH fK))
   refine bodyPost_ret (v:=je eq) (by simp[results,Tryz.results18,go_sem,n0,n1,n2]) rfl ?_
   exact MR.fin HH.out.bl HH.out.ml dL.out bg.out gI.out (fun k hk=>(qN.out k hk).imp id (fun e=>by omega)) dF _ _ _
 |@VD hsl iX fe heq=>
  subst iX
  as_aux_lemma=>
   subst fe;subst heq;have iV:=gp;have aX:=dU;clear gp dU;have oJ:=aX.out.size
   go_wp2_with (first
    |(go_at_call 27;refine(fC gI.out hl hsl (⟨0,ia,[]⟩)).mono ?_;rintro e w7 ⟨rfl,⟨q',vW,kH⟩,hfx⟩;have DU:=hide vW;have EI:=hide kH;have hzx:=bg.out.size;have dH:Hid (Fr (fun k=>Ob qf qh rp r k\/k=mb) wA w7):=bg.out.trans (hfx.mono (fun k _ e=> .inl e));obtain⟨n0,n1,n2,⟨z0,z1,z2⟩,nl⟩:=bV.out w7 dH.out;clear vW kH hfx)
    |(go_at_call 28;refine(ng ia _).mono ?_;rintro e w6 ⟨rfl,hfx⟩;have gI:=hide (iV.out.new hfx);have bg:Hid (Fr (fun k=>Ob qf qh rp r k\/k=mb) wA w6):=aX.out.trans (hfx.mono (fun _ _ e=>e.elim));obtain⟨n0,n1,n2,⟨z0,z1,z2⟩,nl⟩:=bV.out w6 bg.out;clear hfx))
   refine bodyPost_ret (v:=je (dB)) (by simp[results,Tryz.results18,go_sem,n0,n1,n2,bs]) rfl ?_
   exact MR.fin (ev:=dB) HH.out.bl HH.out.ml dL.out dH.out DU.out (fun k hk=>(EI.out k hk).imp id (fun e=>by omega)) dF _ _ _
 |@KZ hsl hnm iX fe heq=>
  subst iX
  as_aux_lemma=>
   subst fe;subst heq;have c9:=gp.out.c9;have cm5:=gp.out.ml;have iV:=gp;have aX:=dU;clear gp dU;have oJ:=aX.out.size
   go_wp2_with (first
    |(go_at_call 27;refine(fC gI.out hl hsl (ji x.nm)).mono ?_;rintro e w7 ⟨rfl,⟨q',vW,kH⟩,hfx⟩;have DU:=hide vW;have EI:=hide kH;have hzx:=bg.out.size;have dH:Hid (Fr (fun k=>Ob qf qh rp r k\/k=mb) wA w7):=bg.out.trans (hfx.mono (fun k _ e=> .inl e));obtain⟨n0,n1,n2,⟨z0,z1,z2⟩,nl⟩:=bV.out w7 dH.out;clear vW kH hfx)
    |(go_at_call 39;refine(uC x.nm _ (by omega)).mono ?_;rintro e w6 ⟨rfl,hfx⟩;have gI:=hide (iV.out.new hfx);have bg:Hid (Fr (fun k=>Ob qf qh rp r k\/k=mb) wA w6):=aX.out.trans (hfx.mono (fun _ _ e=>e.elim));obtain⟨n0,n1,n2,⟨z0,z1,z2⟩,nl⟩:=bV.out w6 bg.out;clear hfx))
   refine bodyPost_ret (v:=je (dB)) (by simp[results,Tryz.results18,go_sem,n0,n1,n2,bs]) rfl ?_
   exact MR.fin (ev:=dB) HH.out.bl HH.out.ml dL.out dH.out DU.out (fun k hk=>(EI.out k hk).imp id (fun e=>by omega)) dF _ _ _
 |@VE st v hst hs iX fe heq=>
  subst iX
  as_aux_lemma=>
   subst fe;subst heq;have iV:=gp;have aX:=dU;clear gp dU;have oJ:=aX.out.size
   go_wp2_with (first
    |(go_at_call 40;refine(dM iV.out hl hst (by omega)).mono ?_;rintro e w6 ⟨rfl,vW,kH,hfx⟩;have gI:=hide vW;have qN:=hide kH;have bg:Hid (Fr (fun k=>Ob qf qh rp r k\/k=mb) wA w6):=aX.out.trans (hfx.mono (fun k _ e=> .inl e));obtain⟨n0,n1,n2,⟨z0,z1,z2⟩,nl⟩:=bV.out w6 bg.out;clear vW kH hfx))
   refine bodyPost_ret (v:=je (dB)) (by simp[results,Tryz.results18,go_sem,n0,n1,n2,bs]) rfl ?_
   exact MR.fin (ev:=dB) HH.out.bl HH.out.ml dL.out bg.out gI.out (fun k hk=> .inl (qN.out k hk)) dF _ _ _
 |@VF st v hst hs ht hc0 hv Oo iX fe heq=>
  subst iX
  as_aux_lemma=>
   subst fe;have HTT:Hid (∀w6 q (_:Fr (fun k=>Ob qf qh rp r k\/k=mb) w w6) (_:w6.cell? ⟨mb,5,none⟩=some (.slice qh.a qh.n qh.c)) (_:Sl jv 6 w6 qh.v m.hp),q=fZ m.hp v->Calls Tryz.prog 47 #[.pointer (some ⟨mb,0,none⟩),.int .i64 2,vv v] w6 fun e w'=>e=.returned (je ⟨2,q,0⟩)/\Fr nothing w6 w'):=fun w6 q h6 c5 hs6 e=>by
    rw[e];exact BK mb 2 w6 m.hp qh v c5 hs6 (fun w' hf=>ht w' (h6.trans (hf.mono (fun _ _ e=>e.elim)))) hc0 hv Oo
   clear ht hc0 hv;obtain⟨tq,Xp⟩:∃y,y=fZ m.hp v:=⟨_,rfl⟩
   rw[<-Xp] at heq;subst heq;have HTQ:=hide Xp;clear Xp;have Il:=hide (dL.out.mono (S':=fun k=>Ob qf qh rp r k\/k=mb) (fun _ _ e=>e.elim));have iV:=gp;have aX:=dU;clear gp dU;have oJ:=aX.out.size
   go_wp2_with (first
    |(go_at_call 47;refine(HTT.out _ tq (Il.out.trans bg.out) gI.out.c5 (gI.out.hp.sl bY) HTQ.out).mono ?_;rintro e w7 ⟨rfl,hfx⟩;have DU:=hide (gI.out.new hfx);have dH:Hid (Fr (fun k=>Ob qf qh rp r k\/k=mb) wA w7):=bg.out.trans (hfx.mono (fun _ _ e=>e.elim));obtain⟨n0,n1,n2,⟨z0,z1,z2⟩,nl⟩:=bV.out w7 dH.out;clear hfx)
    |(go_at_call 40;refine(dM iV.out hl hst (by omega)).mono ?_;rintro e w6 ⟨rfl,vW,kH,hfx⟩;have gI:=hide vW;have qN:=hide kH;have bg:Hid (Fr (fun k=>Ob qf qh rp r k\/k=mb) wA w6):=aX.out.trans (hfx.mono (fun k _ e=> .inl e));obtain⟨n0,n1,n2,⟨z0,z1,z2⟩,nl⟩:=bV.out w6 bg.out;clear vW kH hfx))
   refine bodyPost_ret (v:=je (⟨2,tq,0⟩)) (by simp[results,Tryz.results18,go_sem,n0,n1,n2]) rfl ?_
   exact MR.fin (ev:=⟨2,tq,0⟩) HH.out.bl HH.out.ml dL.out dH.out DU.out (fun k hk=> .inl (qN.out k hk)) dF _ _ _
 |@O8 iX fe heq=>
  subst iX
  as_aux_lemma=>
   subst heq;have HMQ:=hide fe;clear fe;have iV:=gp;have aX:=dU;clear gp dU;have oJ:=aX.out.size;obtain⟨g5,hg5,gl5,abZ,⟨-,k1,-⟩,kz,H6,aR⟩:=iV.out.goes ia;obtain rfl:g=g5:=by have:=HG.out.symm.trans hg5;simpa using this
   have gI:=hide H6;have bg:Hid (Fr (fun k=>Ob qf qh rp r k\/k=mb) wA (w5.setCell ⟨g,rp.length*4+1,none⟩ (.int .i64 ia))):=aX.out.trans (aR.mono (fun k _ e=> .inl (by rw[e];exact Mx)))
   clear H6 aR hg5
   go_upto_region 44 with fail
   obtain⟨n0,n1,n2,⟨z0,z1,z2⟩,nl⟩:=bV.out _ bg.out;generalize w5.setCell ⟨g,rp.length*4+1,none⟩ (.int .i64 ia)=w6 at*
   go_wp2_with fail
   refine bodyPost_ret (v:=je (dB)) (by simp[results,Tryz.results18,go_sem,n0,n1,n2,bs]) rfl ?_
   rw[HMQ.out];exact MR.fin (ev:=dB) HH.out.bl HH.out.ml dL.out bg.out gI.out (fun k hk=> .inl hk) dF _ _ _
 |@EG st v hst hs hk iX fe heq=>
  subst iX
  as_aux_lemma=>
   subst fe;subst heq;have hkb:(v.k==0)=false:=by simpa using hk
   clear hk;have iV:=gp;have aX:=dU;clear gp dU;have oJ:=aX.out.size;have HI5:=hide il
   go_upto_region 36 with(go_at_call 40;(refine(dM iV.out hl hst (by omega)).mono ?_;rintro e w6 ⟨rfl,vW,kH,hfx⟩;have gI:=hide vW;have qN:=hide kH;have bg:Hid (Fr (fun k=>Ob qf qh rp r k\/k=mb) wA w6):=aX.out.trans (hfx.mono (fun k _ e=> .inl e));have xm:=HI5.out;have i6:=(hfx.cell (p:=⟨w2.heap.size,1,none⟩) il (fun e=>by have h1:w2.heap.size<w.heap.size:=dF _ e;have:=bq.out.size;omega)).trans hi1;have VI:=Nat.lt_of_lt_of_le il hfx.size;clear vW kH hfx))
   have mV:=af (Fr.refl nothing (w6.alloc (.cells #[.int .i64 v.k,.int .i64 v.n,.string (bs v.t)] 53))) id;have DU:=hide (gI.out.new ((Fr.refl nothing w6).alloc (.cells #[.int .i64 v.k,.int .i64 v.n,.string (bs v.t)] 53)));have dH:Hid (Fr (fun k=>Ob qf qh rp r k\/k=mb) wA (w6.alloc (.cells #[.int .i64 v.k,.int .i64 v.n,.string (bs v.t)] 53))):=bg.out.alloc _;have p0:=mV.1 0;have p1:=mV.1 1;have p2:=mV.1 2;have pl:=mV.2.2;clear mV;generalize w6.alloc (.cells #[.int .i64 v.k,.int .i64 v.n,.string (bs v.t)] 53)=w7 at*;obtain⟨n0,n1,n2,⟨z0,z1,z2⟩,nl⟩:=bV.out _ dH.out
   go_wp2_with fail
   refine bodyPost_ret (v:=je (dB)) (by simp[results,Tryz.results18,go_sem,n0,n1,n2,bs]) rfl ?_
   exact MR.fin (ev:=dB) HH.out.bl HH.out.ml dL.out dH.out DU.out (fun k hk=> .inl (qN.out k hk)) dF _ _ _
 |@EH st v hst hs hk hn iX fe heq=>
  subst iX
  as_aux_lemma=>
   subst fe;subst heq;have hkb:(v.k==0)=true:=by simpa using hk
   have OT:(v.n==0)=false:=by simpa using hn
   clear hk hn;have iV:=gp;have aX:=dU;clear gp dU;have oJ:=aX.out.size;have HI5:=hide il
   go_upto_region 36 with(go_at_call 40;(refine(dM iV.out hl hst (by omega)).mono ?_;rintro e w6 ⟨rfl,vW,kH,hfx⟩;have gI:=hide vW;have qN:=hide kH;have bg:Hid (Fr (fun k=>Ob qf qh rp r k\/k=mb) wA w6):=aX.out.trans (hfx.mono (fun k _ e=> .inl e));have xm:=HI5.out;have i6:=(hfx.cell (p:=⟨w2.heap.size,1,none⟩) il (fun e=>by have h1:w2.heap.size<w.heap.size:=dF _ e;have:=bq.out.size;omega)).trans hi1;have VI:=Nat.lt_of_lt_of_le il hfx.size;clear vW kH hfx))
   have mV:=af (Fr.refl nothing (w6.alloc (.cells #[.int .i64 v.k,.int .i64 v.n,.string (bs v.t)] 53))) id;have DU:=hide (gI.out.new ((Fr.refl nothing w6).alloc (.cells #[.int .i64 v.k,.int .i64 v.n,.string (bs v.t)] 53)));have dH:Hid (Fr (fun k=>Ob qf qh rp r k\/k=mb) wA (w6.alloc (.cells #[.int .i64 v.k,.int .i64 v.n,.string (bs v.t)] 53))):=bg.out.alloc _;have p0:=mV.1 0;have p1:=mV.1 1;have p2:=mV.1 2;have pl:=mV.2.2;clear mV;generalize w6.alloc (.cells #[.int .i64 v.k,.int .i64 v.n,.string (bs v.t)] 53)=w7 at*;obtain⟨n0,n1,n2,⟨z0,z1,z2⟩,nl⟩:=bV.out _ dH.out
   go_wp2_with fail
   refine bodyPost_ret (v:=je (dB)) (by simp[results,Tryz.results18,go_sem,n0,n1,n2,bs]) rfl ?_
   exact MR.fin (ev:=dB) HH.out.bl HH.out.ml dL.out dH.out DU.out (fun k hk=> .inl (qN.out k hk)) dF _ _ _
 |@BL st v hst hs hk hn iX fe heq=>
  subst iX
  as_aux_lemma=>
   have hkb:(v.k==0)=true:=by simpa using hk
   have OT:(v.n==0)=true:=by simpa using hn
   clear hk hn;subst heq;have HMQ:=hide fe;clear fe;have iV:=gp;have aX:=dU;clear gp dU;have oJ:=aX.out.size;have HI5:=hide il
   go_upto_region 36 with(go_at_call 40;(refine(dM iV.out hl hst (by omega)).mono ?_;rintro e w6 ⟨rfl,vW,kH,hfx⟩;have gI:=hide vW;have qN:=hide kH;have bg:Hid (Fr (fun k=>Ob qf qh rp r k\/k=mb) wA w6):=aX.out.trans (hfx.mono (fun k _ e=> .inl e));have xm:=HI5.out;have i6:=(hfx.cell (p:=⟨w2.heap.size,1,none⟩) il (fun e=>by have h1:w2.heap.size<w.heap.size:=dF _ e;have:=bq.out.size;omega)).trans hi1;have VI:=Nat.lt_of_lt_of_le il hfx.size;clear vW kH hfx))
   have mV:=af (Fr.refl nothing (w6.alloc (.cells #[.int .i64 v.k,.int .i64 v.n,.string (bs v.t)] 53))) id;have DU:=hide (gI.out.new ((Fr.refl nothing w6).alloc (.cells #[.int .i64 v.k,.int .i64 v.n,.string (bs v.t)] 53)));have dH:Hid (Fr (fun k=>Ob qf qh rp r k\/k=mb) wA (w6.alloc (.cells #[.int .i64 v.k,.int .i64 v.n,.string (bs v.t)] 53))):=bg.out.alloc _;have p0:=mV.1 0;have p1:=mV.1 1;have p2:=mV.1 2;have pl:=mV.2.2;clear mV;have i7:(w6.alloc (.cells #[.int .i64 v.k,.int .i64 v.n,.string (bs v.t)] 53)).cell? ⟨w2.heap.size,1,none⟩=some (.int .i64 ia):=(((Fr.refl nothing w6).alloc _).cell (p:=⟨w2.heap.size,1,none⟩) VI id).trans i6;have il7:w2.heap.size<(w6.alloc (.cells #[.int .i64 v.k,.int .i64 v.n,.string (bs v.t)] 53)).heap.size:=Nat.lt_of_lt_of_le VI ((Fr.refl nothing w6).alloc _).size;generalize w6.alloc (.cells #[.int .i64 v.k,.int .i64 v.n,.string (bs v.t)] 53)=w7 at*;obtain⟨g5,hg5,gl5,abZ,⟨-,k1,-⟩,kz,H6,aR⟩:=DU.out.goes ia;obtain rfl:g=g5:=by have:=HG.out.symm.trans hg5;simpa using this
   have HM8:=hide H6;have lK:Hid (Fr (fun k=>Ob qf qh rp r k\/k=mb) wA (w7.setCell ⟨g,rp.length*4+1,none⟩ (.int .i64 ia))):=dH.out.trans (aR.mono (fun k _ e=> .inl (by rw[e];exact Mx)))
   clear H6 aR hg5
   go_upto_region 44 with fail
   obtain⟨n0,n1,n2,⟨z0,z1,z2⟩,nl⟩:=bV.out _ lK.out;generalize w7.setCell ⟨g,rp.length*4+1,none⟩ (.int .i64 ia)=w8 at*
   go_wp2_with fail
   refine bodyPost_ret (v:=je (dB)) (by simp[results,Tryz.results18,go_sem,n0,n1,n2,bs]) rfl ?_
   rw[HMQ.out];exact MR.fin (ev:=dB) HH.out.bl HH.out.ml dL.out lK.out HM8.out (fun k hk=> .inl (qN.out k hk)) dF _ _ _
 |@o_load hsl y hy hia iX fe heq=>
  subst iX
  as_aux_lemma=>
   subst fe;subst heq;obtain⟨vb,hva,vl0,vob,-⟩:=HH.out.var hy v0;have Bw:=HH.out.et.v.n;have iV:=gp;have aX:=dU;clear gp dU;have oJ:=aX.out.size;have EJ:=hide (iV.out.new ((Fr.refl nothing w5).drew));have MB:Hid (Fr (fun k=>Ob qf qh rp r k\/k=mb) wA w5.drew):=aX.out.drew;have h2w:=bq.out.size;have HVA:Hid (∀w',Mt base mb x qf qh rp {r with at_:=(ak:Int)+1} (aW m ak) w'->w'.cell? ⟨g,rp.length*4+2,none⟩=some (.slice (some ⟨vb,0,none⟩) m.f.vars.length r.v.c)/\w'.cell? ⟨vb,ia.toNat*3,none⟩=some (.int .i64 y.k)/\w'.cell? ⟨vb,ia.toNat*3+1,none⟩=some (.int .i64 y.n)/\w'.cell? ⟨vb,ia.toNat*3+2,none⟩=some (.string (bs y.t))):=fun w' hm=>by
    obtain⟨gg,hgg,-,-,⟨-,-,k2⟩,-⟩:=hm.goes 0;obtain rfl:g=gg:=by have:=HG.out.symm.trans hgg;simpa using this
    have k2':w'.cell? ⟨g,rp.length*4+2,none⟩=some (.slice r.v.a r.v.n r.v.c):=k2;rw[hva,Bw] at k2';obtain⟨TP,AO,-,-,k3,-⟩:=hm.var hy v0;obtain rfl:vb=TP:=by have:=hva.symm.trans AO;simpa using this
    exact⟨k2',k3⟩
   have Y3:Hid (∀q' w',Mt base mb x qf qh rp {r with at_:=(ak:Int)+1,s:=q'} (Z9 (aW m ak) y) w'->w'.cell? ⟨g,rp.length*4+2,none⟩=some (.slice (some ⟨vb,0,none⟩) m.f.vars.length r.v.c)/\w'.cell? ⟨vb,ia.toNat*3,none⟩=some (.int .i64 y.k)/\w'.cell? ⟨vb,ia.toNat*3+1,none⟩=some (.int .i64 y.n)/\w'.cell? ⟨vb,ia.toNat*3+2,none⟩=some (.string (bs y.t))):=fun q' w' hm=>by
    obtain⟨gg,hgg,-,-,⟨-,-,k2⟩,-⟩:=hm.goes 0;obtain rfl:g=gg:=by have:=HG.out.symm.trans hgg;simpa using this
    have k2':w'.cell? ⟨g,rp.length*4+2,none⟩=some (.slice r.v.a r.v.n r.v.c):=k2;rw[hva,Bw] at k2';obtain⟨TP,AO,-,-,k3,-⟩:=hm.var hy v0;obtain rfl:vb=TP:=by have:=hva.symm.trans AO;simpa using this
    exact⟨k2',k3⟩
   have hs5:=HVA.out _ EJ.out;have xX:w5.drew.cell? ⟨w2.heap.size,1,none⟩=some (.int .i64 ia):=hi1;clear hva Bw
   go_wp2_with fail
   refine wp_region_held_drew (S:=fun w'=>w'.cell? ⟨w2.heap.size,1,none⟩=some (.int .i64 ia)/\w'.cell? ⟨g,rp.length*4+2,none⟩=some (.slice (some ⟨vb,0,none⟩) m.f.vars.length r.v.c)/\w'.cell? ⟨vb,ia.toNat*3,none⟩=some (.int .i64 y.k)/\w'.cell? ⟨vb,ia.toNat*3+1,none⟩=some (.int .i64 y.n)/\w'.cell? ⟨vb,ia.toNat*3+2,none⟩=some (.string (bs y.t))) (by kernel_rfl) ⟨xX,hs5⟩ (fun hHeld=>?_)
   refine tk 0 ?_
   refine tk 1 ?_
   refine tk 2 ?_
   refine tk 3 ?_
   refine tk 4 ?_
   refine tk 5 ?_
   refine tk 6 ?_
   refine tk 7 ?_
   refine tk 8 ?_
   refine iP 9 (fun K hK=>?_)
   refine aF rfl 27 Tryz.f27 #[.tmp 71,.tmp 79] #[95,53] rfl Tryz.func27 (by kernel_rfl) (by kernel_rfl) #[.pointer (some ⟨mb,0,none⟩),vv y] (by simp[Act.eval]) _ (fC EJ.out hl hsl y) ?_
   rintro e w7 ⟨rfl,⟨q',Si,Pd⟩,dZ⟩;refine⟨_,rfl,?_⟩
   have hs7:=Y3.out q' w7 Si;have i7:=(dZ.cell (p:=⟨w2.heap.size,1,none⟩) il (fun e=>by have h1:w2.heap.size<w.heap.size:=dF _ e;omega)).trans xX
   have DU:=hide Si;have EI:Hid (∀k,Ob qf qh rp {r with at_:=(ak:Int)+1,s:=q'} k->Ob qf qh rp r k\/w5.heap.size<=k):=Pd
   have dH:Hid (Fr (fun k=>Ob qf qh rp r k\/k=mb) wA w7):=MB.out.trans (dZ.mono (fun k _ e=> .inl e));refine hK _ _ ⟨i7,hs7⟩ (fun _=>?_)
   clear hK K hHeld
   try simp only[Act.put,sA,sZ,sS]
   refine wpAnyH_done (by kernel_rfl) ?_ _
   obtain⟨n0,n1,n2,⟨z0,z1,z2⟩,nl⟩:=bV.out _ dH.out;clear Si Pd dZ hs7 i7 hs5 xX hi0 hi1 hi2
   go_wp2_with fail
   refine bodyPost_ret (v:=je (dB)) (by simp[results,Tryz.results18,go_sem,n0,n1,n2,bs]) rfl ?_
   exact MR.fin (ev:=dB) HH.out.bl HH.out.ml dL.out dH.out DU.out (fun k hk=>(EI.out k hk).imp id (fun e=>by omega)) dF _ _ _
 |@O9 hsl t ht0 hia htl iX fe heq=>
  subst iX
  as_aux_lemma=>
   subst fe;subst heq;have qO:Hid (∀w',Fr (fun k=>Ob qf qh rp r k\/k=mb) w w'->∃wb wo,x.sw.a=some ⟨wb,wo,none⟩/\x.sw.n=m.pg.ws.length/\w'.cell? ⟨wb,wo+ia.toNat,none⟩=some (.string (bs t))):=fun w' hf=>by
    obtain⟨ao,cap,he,hm,hcl⟩:=(Tz.out w' hf).ws;obtain⟨b,off,rfl,hb,h1⟩:=hcl ia.toNat t ht0;simp only[ai.v,Value.slice.injEq] at he;have h2:=h1 0 _ rfl;rw[Nat.mul_one,Nat.add_zero] at h2;exact⟨b,off,he.1,he.2.1,h2⟩
   have iV:=gp;have aX:=dU;clear gp dU;have oJ:=aX.out.size;have EJ:=hide (iV.out.new ((Fr.refl nothing w5).drew));have MB:Hid (Fr (fun k=>Ob qf qh rp r k\/k=mb) wA w5.drew):=aX.out.drew;have h2w:=bq.out.size;have Il:=hide (dL.out.mono (S':=fun k=>Ob qf qh rp r k\/k=mb) (fun _ _ e=>e.elim));obtain⟨wb,wo,VJ,hwn,hwc⟩:=qO.out w5.drew (Il.out.trans MB.out);have HWS:Hid (∀w',Fr (fun k=>Ob qf qh rp r k\/k=mb) wA w'->w'.cell? ⟨wb,wo+ia.toNat,none⟩=some (.string (bs t))):=fun w' hf=>by
    obtain⟨wb',wo',e1,-,e3⟩:=qO.out w' (Il.out.trans hf);have:=VJ.symm.trans e1;simp at this
    obtain⟨rfl,rfl⟩:=this;exact e3
   have hc3:=EJ.out.c3;rw[VJ,hwn] at hc3;have aaa:∀(q:aQ) (mm:Mc) (w':World),Mt base mb x qf qh rp q mm w'->w'.cell? ⟨mb,3,none⟩=some (.slice (some ⟨wb,wo,none⟩) m.pg.ws.length x.sw.c):=fun q mm w' h'=>by
    have:=h'.c3;rw[VJ,hwn] at this;exact this
   have K5:=hide aaa;have xX:w5.drew.cell? ⟨w2.heap.size,1,none⟩=some (.int .i64 ia):=hi1;have hwt:(ia.toNat:Int)<(m.pg.ws.length:Int):=by omega
   clear VJ hwn aaa
   go_wp2_with fail
   refine wp_region_held_drew (S:=fun w'=>w'.cell? ⟨w2.heap.size,1,none⟩=some (.int .i64 ia)/\w'.cell? ⟨mb,3,none⟩=some (.slice (some ⟨wb,wo,none⟩) m.pg.ws.length x.sw.c)/\w'.cell? ⟨wb,wo+ia.toNat,none⟩=some (.string (bs t))) (by kernel_rfl) ⟨xX,hc3,hwc⟩ (fun hHeld=>?_)
   refine tk 0 ?_
   refine tk 1 ?_
   refine tk 2 ?_
   refine tk 3 ?_
   refine tk 4 ?_
   refine tk 5 ?_
   refine tk 6 ?_
   refine tk 7 ?_
   refine tk 8 ?_
   refine tk 9 ?_
   refine tk 10 ?_
   refine iP 11 (fun K hK=>?_)
   refine aF rfl 39 Tryz.f39 #[.tmp 66] #[9] rfl Tryz.func39 (by kernel_rfl) (by kernel_rfl) #[.string (bs t)] (by simp[Act.eval]) _ (uC t _ (by omega)) ?_
   rintro e w6 ⟨rfl,aR⟩;refine⟨_,rfl,?_⟩
   have gI:=hide (EJ.out.new aR);have bg:Hid (Fr (fun k=>Ob qf qh rp r k\/k=mb) wA w6):=MB.out.trans (aR.mono (fun _ _ e=>e.elim));have i6:=(aR.cell (p:=⟨w2.heap.size,1,none⟩) il id).trans xX;have VI:=Nat.lt_of_lt_of_le il aR.size;refine hK _ _ ⟨i6,K5.out _ _ _ gI.out,HWS.out _ bg.out⟩ (fun _=>?_)
   clear hK K hHeld
   try simp only[Act.put,sA,sZ,sS]
   refine iP 12 (fun K hK=>?_)
   refine aF rfl 27 Tryz.f27 #[.tmp 56,.tmp 67] #[95,53] rfl Tryz.func27 (by kernel_rfl) (by kernel_rfl) #[.pointer (some ⟨mb,0,none⟩),vv (ji t)] (by simp[Act.eval]) _ (fC gI.out hl hsl (ji t)) ?_
   rintro e w7 ⟨rfl,⟨q',Si,Pd⟩,dZ⟩;refine⟨_,rfl,?_⟩
   have i7:=(dZ.cell (p:=⟨w2.heap.size,1,none⟩) VI (fun e=>by have h1:w2.heap.size<w.heap.size:=dF _ e;omega)).trans i6;have DU:=hide Si;have EI:Hid (∀k,Ob qf qh rp {r with at_:=(ak:Int)+1,s:=q'} k->Ob qf qh rp r k\/w6.heap.size<=k):=Pd
   have dH:Hid (Fr (fun k=>Ob qf qh rp r k\/k=mb) wA w7):=bg.out.trans (dZ.mono (fun k _ e=> .inl e));have mG:=bg.out.size;refine hK _ _ ⟨i7,K5.out _ _ _ DU.out,HWS.out _ dH.out⟩ (fun _=>?_)
   clear hK K
   try simp only[Act.put,sA,sZ,sS]
   refine wpAnyH_done (by kernel_rfl) ?_ _
   obtain⟨n0,n1,n2,⟨z0,z1,z2⟩,nl⟩:=bV.out _ dH.out;clear Si Pd dZ aR i7 i6 xX hi0 hi1 hi2 hc3 hwc
   go_wp2_with fail
   refine bodyPost_ret (v:=je (dB)) (by simp[results,Tryz.results18,go_sem,n0,n1,n2,bs]) rfl ?_
   exact MR.fin (ev:=dB) HH.out.bl HH.out.ml dL.out dH.out DU.out (fun k hk=>(EI.out k hk).imp id (fun e=>by omega)) dF _ _ _
 |@Pb st v hst hs VG r' pre gf K3 hpre hgf iX fe heq=>
  subst iX
  as_aux_lemma=>
   have HIA:=hide (And.intro K3 hpre);clear K3 hpre;have HC:Hid (∀w5,Mt base mb x qf qh rp {r with at_:=(ak:Int)+1} (aW m ak) w5->Calls Tryz.prog 49 #[.pointer (some ⟨mb,0,none⟩)] w5 (MR base mb x (Ob qf qh rp r) w5 mq eq)):=fun w5 h5=>by
    rw[fe,heq];exact(by
     obtain⟨rfl,hpre⟩:=HIA.out;have h6:Mt base mb x qf qh (VG++ [r']) {r with at_:=(ak:Int)+1} {aW m ak with pre:=pre++ [gf]} w5:=by rw[<-hpre];exact h5
     exact Ik (m:=aW m ak) h6 hl hst hs hgf)
   clear fe heq
   go_wp2_with (first
    |(go_at_call 49;refine(HC.out _ gp.out).mono ?_;rintro e w6 hMR;obtain⟨rfl,⟨AB,uu,rp',r',fD,sH⟩,fK⟩:=hMR;have gI:=hide fD;have qN:=hide sH;have oJ:=dU.out.size;have bg:Hid (Fr (fun k=>Ob qf qh rp r k\/k=mb) wA w6):=dU.out.trans fK;obtain⟨n0,n1,n2,⟨z0,z1,z2⟩,nl⟩:=bV.out w6 bg.out;clear fD sH fK))
   refine bodyPost_ret (v:=je eq) (by simp[results,Tryz.results18,go_sem,n0,n1,n2]) rfl ?_
   exact MR.fin HH.out.bl HH.out.ml dL.out bg.out gI.out (fun k hk=>(qN.out k hk).imp id (fun e=>by omega)) dF _ _ _
theorem EK (h:Mt base mb x qf qh rp r m w) (hl:rp.length<=1000) {fk ak:Nat} (hfn:m.f.fn=fk) (hat:m.f.at_=ak) (hak:ak<=100000) {c:Cz} (hc:m.pg.cs[fk]?=some c) {ia ib:Int} (hi:c.ins[ak]?=some ⟨4,ia,ib⟩) (hfu:1<=m.fuel/\m.fuel<=1000000) (hP:∀w',Fr (fun k=>Ob qf qh rp r k\/k=mb) w w'->iq w' x.sc x.sw m.pg) {st:List Val} {v:Val} (hst:m.f.stack=st++ [v]) (hs:st.length<=1000) {y:Val} (hy:m.f.vars[ia.toNat]?=some y) (hia:0<=ia/\ia<m.f.vars.length):
 Calls Tryz.prog 18 #[.pointer (some ⟨mb,0,none⟩)] w (MR base mb x (Ob qf qh rp r) w ({stk (aW m ak) st with f:={m.f with at_:=(ak:Int)+1,stack:=st,vars:=m.f.vars.set ia.toNat v}}) (dB)):=by
 obtain⟨vb,hva,vl0,vob,-⟩:=h.var hy v0;have Bw:=h.et.v.n;obtain⟨mq,fe⟩:∃y,y=({stk (aW m ak) st with f:={m.f with at_:=(ak:Int)+1,stack:=st,vars:=m.f.vars.set ia.toNat v}}):=⟨_,rfl⟩
 rw[<-fe];have HMQ:=hide fe;clear fe;have FA:Fr nothing w (w.alloc (.cells #[.int .i64 0,.string ⟨#[]⟩,.int .i64 0] 39)):=(Fr.refl _ _).alloc _;have mA:=af (Fr.refl nothing (w.alloc (.cells #[.int .i64 0,.string ⟨#[]⟩,.int .i64 0] 39))) id;have dF:∀k,Ob qf qh rp r k->k<w.heap.size:=fun k hk=>(h.ob hk).2
 have hnb:¬(Ob qf qh rp r w.heap.size\/w.heap.size=mb):=fun e=>by
  rcases e with e|e
  ·have:=dF _ e;omega
  ·have:=h.mw;omega
 obtain⟨wA,iU⟩:∃y,y=w.alloc (.cells #[.int .i64 0,.string ⟨#[]⟩,.int .i64 0] 39):=⟨_,rfl⟩
 rw[<-iU] at FA mA;have bV:Hid (∀w',Fr (fun k=>Ob qf qh rp r k\/k=mb) wA w'->w'.cell? ⟨w.heap.size,0,none⟩=some (.int .i64 0)/\w'.cell? ⟨w.heap.size,1,none⟩=some (.string ⟨#[]⟩)/\w'.cell? ⟨w.heap.size,2,none⟩=some (.int .i64 0)/\(w'.frozen? ⟨w.heap.size,0,none⟩=false/\w'.frozen? ⟨w.heap.size,1,none⟩=false/\w'.frozen? ⟨w.heap.size,2,none⟩=false)/\w.heap.size<w'.heap.size):=fun w' hf=>by
  have hc:∀j,w'.cell? ⟨w.heap.size,j,none⟩=_:=fun j=>(hf.cell (p:=⟨w.heap.size,j,none⟩) mA.2.2 hnb).trans (mA.1 j)
  have hz:∀j,w'.frozen? ⟨w.heap.size,j,none⟩=_:=fun j=>(hf.frozen (p:=⟨w.heap.size,j,none⟩) mA.2.2 hnb).trans (mA.2.1 j)
  exact⟨hc 0,hc 1,hc 2,⟨hz 0,hz 1,hz 2⟩,Nat.lt_of_lt_of_le mA.2.2 hf.size⟩
 have H0:=hide (h.new FA);have dL:=hide FA;have zA:wA.heap.size=w.heap.size+1:=by rw[iU];simp
 have pQ:=iU.symm;have HH:=hide h;have KO:=hide (lY H0.out hl);have Tz:=hide hP;clear h FA mA iU hP
 go_enter Tryz.func18,Tryz.ntmps18
 go_wp2_with (go_at_call 38;refine KO.out.mono ?_;rintro e w2 ⟨⟨g,hg,rfl⟩,hf2⟩;have bq:=hide hf2;have HG:=hide hg;clear hf2 hg)
 have H2:=H0.out.new bq.out;have Mf:Hid (Fr (fun k=>Ob qf qh rp r k\/k=mb) w w2):=(dL.out.trans bq.out).mono (fun _ _ e=>e.elim);obtain⟨g',hg',gl,Mx,⟨f0,f1,f2⟩,fz,-,-⟩:=H2.goes 0;obtain rfl:g=g':=by have:=HG.out.symm.trans hg';simpa using this
 rw[hfn] at f0;rw[hat] at f1;have c2:=H2.c2;have c6:=H2.c6;have cm:=H2.ml;have VH:=H2.z 6;have hgm:g≠mb:=H2.nm g Mx;obtain⟨⟨rs,hrs,kM⟩,-⟩:=Tz.out w2 Mf.out;obtain⟨n1,m1⟩:=ay hrs;rw[kM.1] at n1 m1;have hlc:=(List.getElem?_eq_some_iff.1 hc).1;obtain⟨rc,hrc⟩:∃y,rs[fk]?=some y:=⟨_,List.getElem?_eq_getElem (by rw[kM.1];exact hlc)⟩
 have hok:=kM.2 fk rc c hrc hc;obtain⟨cg,co,ec,Gj,-,-,y2⟩:=fB (s:=x.sc) hrs hrc;obtain⟨n2,m2⟩:=ay hok.s;have hli:=(List.getElem?_eq_some_iff.1 hi).1;obtain⟨ig,io,ei,K4,u0,u1,u2⟩:=iB (s:=rc.s) hok.s hi;simp only at u0 u1 u2;rw[ei,n2] at y2;rw[ec,n1] at c2;have hb1:(fk:Int)<(m.pg.cs.length:Int):=by omega
 have hb2:(ak:Int)<(c.ins.length:Int):=by omega
 have hw1:IntKind.i64.wrap ((ak:Int)+1)=(ak:Int)+1:=aO _ (by omega) (by omega);have hw2:IntKind.i64.wrap (m.fuel-1)=m.fuel-1:=aO _ (by omega) (by omega);have iL:Hid (∀w',Fr nothing w2 w'->(w'.cell? ⟨mb,2,none⟩=some (.slice (some ⟨cg,co,none⟩) m.pg.cs.length x.sc.c)/\w'.cell? ⟨g,rp.length*4,none⟩=some (.int .i64 fk)/\w'.cell? ⟨g,rp.length*4+1,none⟩=some (.int .i64 ak))/\w'.cell? ⟨cg,co+fk*3+2,none⟩=some (.slice (some ⟨ig,io,none⟩) c.ins.length rc.s.c)/\w'.cell? ⟨ig,io+ak*3,none⟩=some (.int .i64 4)/\w'.cell? ⟨ig,io+ak*3+1,none⟩=some (.int .i64 ia)/\w'.cell? ⟨ig,io+ak*3+2,none⟩=some (.int .i64 ib)):=fun w' hf=>⟨⟨(hf.cell (p:=⟨mb,2,none⟩) cm id).trans c2,(hf.cell (p:=⟨g,_,none⟩) gl id).trans f0,(hf.cell (p:=⟨g,_,none⟩) gl id).trans f1⟩,(hf.cell (p:=⟨cg,_,none⟩) Gj id).trans y2,(hf.cell (p:=⟨ig,_,none⟩) K4 id).trans u0,(hf.cell (p:=⟨ig,_,none⟩) K4 id).trans u1,(hf.cell (p:=⟨ig,_,none⟩) K4 id).trans u2⟩
 have hS2:=iL.out _ (Fr.refl nothing w2).drew;have FI:Fr nothing w2 (w2.alloc (.cells #[.int .i64 4,.int .i64 ia,.int .i64 ib] 82)).drew:=((Fr.refl nothing w2).alloc _).drew;have mI:=af (w:=w2) (cs:=#[.int .i64 4,.int .i64 ia,.int .i64 ib]) (t:=82) (w1:=(w2.alloc (.cells #[.int .i64 4,.int .i64 ia,.int .i64 ib] 82)).drew) (S:=nothing) ((Fr.refl nothing _).drew) id;have H3:=H2.new FI;obtain⟨g3,hg3,gl3,-,-,-,H4,gm⟩:=H3.goes (ak+1);obtain rfl:g=g3:=by have:=HG.out.symm.trans hg3;simpa using this
 obtain⟨H5,cK⟩:=H4.fue (m.fuel-1);have iV:=hide H5;have aX:Hid (Fr (fun k=>Ob qf qh rp r k\/k=mb) wA (((w2.alloc (.cells #[.int .i64 4,.int .i64 ia,.int .i64 ib] 82)).drew.setCell ⟨g,rp.length*4+1,none⟩ (.int .i64 (ak+1))).setCell ⟨mb,6,none⟩ (.int .i64 (m.fuel-1)))):=(((bq.out.trans FI).mono (fun _ _ e=>e.elim)).trans (gm.mono (fun k _ e=> .inl (by rw[e];exact Mx)))).trans (cK.mono (fun k _ e=> .inr e))
 have hI:∀j,(((w2.alloc (.cells #[.int .i64 4,.int .i64 ia,.int .i64 ib] 82)).drew.setCell ⟨g,rp.length*4+1,none⟩ (.int .i64 (ak+1))).setCell ⟨mb,6,none⟩ (.int .i64 (m.fuel-1))).cell? ⟨w2.heap.size,j,none⟩=_:=fun j=>(cK.cell (p:=⟨w2.heap.size,j,none⟩) (Nat.lt_of_lt_of_le mI.2.2 gm.size) (fun e=>by have e':w2.heap.size=mb:=e;omega)).trans ((gm.cell (p:=⟨w2.heap.size,j,none⟩) mI.2.2 (fun e=>by have e':w2.heap.size=g:=e;omega)).trans (mI.1 j))
 have il:w2.heap.size<(((w2.alloc (.cells #[.int .i64 4,.int .i64 ia,.int .i64 ib] 82)).drew.setCell ⟨g,rp.length*4+1,none⟩ (.int .i64 (ak+1))).setCell ⟨mb,6,none⟩ (.int .i64 (m.fuel-1))).heap.size:=Nat.lt_of_lt_of_le (Nat.lt_of_lt_of_le mI.2.2 gm.size) cK.size;have HI:=hide hI;have sG:=hide f1;clear hI mI H3 H4 H5 gm cK FI H2 c2 f0 f1 f2 y2 u0 u1 u2 hrs kM hrc hok n1 m1 hg' hg3 gl3;refine wp_region_held_drew (S:=fun w'=>(w'.cell? ⟨mb,2,none⟩=some (.slice (some ⟨cg,co,none⟩) m.pg.cs.length x.sc.c)/\w'.cell? ⟨g,rp.length*4,none⟩=some (.int .i64 fk)/\w'.cell? ⟨g,rp.length*4+1,none⟩=some (.int .i64 ak))/\w'.cell? ⟨cg,co+fk*3+2,none⟩=some (.slice (some ⟨ig,io,none⟩) c.ins.length rc.s.c)/\w'.cell? ⟨ig,io+ak*3,none⟩=some (.int .i64 4)/\w'.cell? ⟨ig,io+ak*3+1,none⟩=some (.int .i64 ia)/\w'.cell? ⟨ig,io+ak*3+2,none⟩=some (.int .i64 ib)) (by kernel_rfl) hS2 (fun hHeld=>?_)
 refine tk 0 ?_
 refine tk 1 ?_
 refine tk 2 ?_
 refine tk 3 ?_
 refine tk 4 ?_
 refine tk 5 ?_
 refine tk 6 ?_
 refine tk 7 ?_
 refine tk 8 ?_
 refine tk 9 ?_
 refine tk 10 ?_
 refine tk 11 ?_
 refine tk 12 ?_
 refine tk 13 ?_
 refine tk 14 ?_
 refine tk 15 ?_
 refine tk 16 ?_
 refine tk 17 ?_
 refine tk 18 ?_
 refine iP 19 (fun K hK=>?_)
 go_simp;refine hK _ _ (iL.out _ ((Fr.refl nothing w2).alloc _).drew) (fun _=>?_)
 clear hK K hHeld
 try simp only[Act.put,sA,sZ,sS]
 refine iP 20 (fun K hK=>?_)
 go_simp;refine hK _ _ (iL.out _ ((Fr.refl nothing w2).alloc _).drew) (fun _=>?_)
 clear hK K
 try simp only[Act.put,sA,sZ,sS]
 refine wpAnyH_done (by kernel_rfl) ?_ _
 clear iL hS2;have c6':=(((Fr.refl nothing w2).alloc (.cells #[.int .i64 4,.int .i64 ia,.int .i64 ib] 82)).drew.cell (p:=⟨mb,6,none⟩) cm id).trans c6;have x1:=(((Fr.refl nothing w2).alloc (.cells #[.int .i64 4,.int .i64 ia,.int .i64 ib] 82)).drew.cell (p:=⟨g,rp.length*4+1,none⟩) gl id).trans sG.out;have fz3:=(((Fr.refl nothing w2).alloc (.cells #[.int .i64 4,.int .i64 ia,.int .i64 ib] 82)).drew.frozen (p:=⟨g,rp.length*4+1,none⟩) gl id).trans fz;have cz3:=(((Fr.refl nothing w2).alloc (.cells #[.int .i64 4,.int .i64 ia,.int .i64 ib] 82)).drew.frozen (p:=⟨mb,6,none⟩) cm id).trans VH;generalize(w2.alloc (.cells #[.int .i64 4,.int .i64 ia,.int .i64 ib] 82)).drew=w3 at*
 go_upto_region 5 with fail
 have dU:=aX;have gp:Hid (Mt base mb x qf qh rp {r with at_:=(ak:Int)+1} (aW m ak) ((w3.setCell ⟨g,rp.length*4+1,none⟩ (.int .i64 (ak+1))).setCell ⟨mb,6,none⟩ (.int .i64 (m.fuel-1)))):=iV;have hi0:=HI.out 0;have hi1:=HI.out 1;have hi2:=HI.out 2;clear iV aX HI sG x1 c6' c6 VH fz fz3 cz3;generalize(w3.setCell ⟨g,rp.length*4+1,none⟩ (.int .i64 (ak+1))).setCell ⟨mb,6,none⟩ (.int .i64 (m.fuel-1))=w5 at*;have iV:=gp;have aX:=dU;clear gp dU;have oJ:=aX.out.size;have EJ:=hide (iV.out.new ((Fr.refl nothing w5).drew));have MB:Hid (Fr (fun k=>Ob qf qh rp r k\/k=mb) wA w5.drew):=aX.out.drew;have h2w:=bq.out.size;have HVA:Hid (∀w',Mt base mb x qf qh rp {r with at_:=(ak:Int)+1} (aW m ak) w'->w'.cell? ⟨g,rp.length*4+2,none⟩=some (.slice (some ⟨vb,0,none⟩) m.f.vars.length r.v.c)/\w'.cell? ⟨vb,ia.toNat*3,none⟩=some (.int .i64 y.k)/\w'.cell? ⟨vb,ia.toNat*3+1,none⟩=some (.int .i64 y.n)/\w'.cell? ⟨vb,ia.toNat*3+2,none⟩=some (.string (bs y.t))):=fun w' hm=>by
  obtain⟨gg,hgg,-,-,⟨-,-,k2⟩,-⟩:=hm.goes 0;obtain rfl:g=gg:=by have:=HG.out.symm.trans hgg;simpa using this
  have k2':w'.cell? ⟨g,rp.length*4+2,none⟩=some (.slice r.v.a r.v.n r.v.c):=k2;rw[hva,Bw] at k2';obtain⟨TP,AO,-,-,k3,-⟩:=hm.var hy v0;obtain rfl:vb=TP:=by have:=hva.symm.trans AO;simpa using this
  exact⟨k2',k3⟩
 have Y3:Hid (∀w',Mt base mb x qf qh rp {r with at_:=(ak:Int)+1,s:=⟨r.s.a,st.length,r.s.c⟩} (stk (aW m ak) st) w'->w'.cell? ⟨g,rp.length*4+2,none⟩=some (.slice (some ⟨vb,0,none⟩) m.f.vars.length r.v.c)/\w'.cell? ⟨vb,ia.toNat*3,none⟩=some (.int .i64 y.k)/\w'.cell? ⟨vb,ia.toNat*3+1,none⟩=some (.int .i64 y.n)/\w'.cell? ⟨vb,ia.toNat*3+2,none⟩=some (.string (bs y.t))):=fun w' hm=>by
  obtain⟨gg,hgg,-,-,⟨-,-,k2⟩,-⟩:=hm.goes 0;obtain rfl:g=gg:=by have:=HG.out.symm.trans hgg;simpa using this
  have k2':w'.cell? ⟨g,rp.length*4+2,none⟩=some (.slice r.v.a r.v.n r.v.c):=k2;rw[hva,Bw] at k2';obtain⟨TP,AO,-,-,k3,-⟩:=hm.var hy v0;obtain rfl:vb=TP:=by have:=hva.symm.trans AO;simpa using this
  exact⟨k2',k3⟩
 have hs5:=HVA.out _ EJ.out;have xX:w5.drew.cell? ⟨w2.heap.size,1,none⟩=some (.int .i64 ia):=hi1;have HVC:=hide (And.intro hva Bw);clear hva Bw
 go_wp2_with fail
 refine wp_region_held_drew (S:=fun w'=>w'.cell? ⟨w2.heap.size,1,none⟩=some (.int .i64 ia)/\w'.cell? ⟨g,rp.length*4+2,none⟩=some (.slice (some ⟨vb,0,none⟩) m.f.vars.length r.v.c)) (by kernel_rfl) ⟨xX,hs5.1⟩ (fun hHeld=>?_)
 refine tk 0 ?_
 refine tk 1 ?_
 refine tk 2 ?_
 refine tk 3 ?_
 refine tk 4 ?_
 refine tk 5 ?_
 refine tk 6 ?_
 refine iP 7 (fun K hK=>?_)
 refine aF rfl 40 Tryz.f40 #[.tmp 89] #[95] rfl Tryz.func40 (by kernel_rfl) (by kernel_rfl) #[.pointer (some ⟨mb,0,none⟩)] (by simp[Act.eval]) _ (dM EJ.out hl hst (by omega)) ?_
 rintro e w6 ⟨rfl,vW,kH,hfx⟩;refine⟨_,rfl,?_⟩
 have hs6:=Y3.out w6 vW;have i6:=(hfx.cell (p:=⟨w2.heap.size,1,none⟩) il (fun e=>by have h1:w2.heap.size<w.heap.size:=dF _ e;omega)).trans xX
 have VI:=Nat.lt_of_lt_of_le il hfx.size;obtain⟨TP,AO,vl2,aab,⟨b0,b1,b2⟩,bz,Si,dZ⟩:=vW.var hy v;obtain rfl:vb=TP:=by have:=HVC.out.1.symm.trans AO;simpa using this
 have bz0:w6.frozen? ⟨vb,ia.toNat*3,none⟩=false:=bz 0 (by decide);have bz1:=bz 1 (by decide);have bz2:=bz 2 (by decide);have hvo:Ob qf qh rp r vb:=by
  rcases aab with e|e|e|e|e
  ·exact .inl e
  ·exact .inr (.inl e)
  ·exact .inr (.inr (.inl e))
  ·exact .inr (.inr (.inr (.inl ((qJ r.s.a r.s.n st.length r.s.c).trans e))))
  ·exact .inr (.inr (.inr (.inr e)))
 have hvbw:vb<w.heap.size:=dF vb hvo;have i7:=(dZ.cell (p:=⟨w2.heap.size,1,none⟩) VI (fun e=>by have h1:w2.heap.size<w.heap.size:=dF _ (.inr (.inr (.inl e)));omega)).trans i6
 obtain⟨gg,hgg,-,-,⟨-,-,k2⟩,-⟩:=Si.goes 0;obtain rfl:g=gg:=by have:=HG.out.symm.trans hgg;simpa using this
 have k2':(((w6.setCell ⟨vb,ia.toNat*3,none⟩ (.int .i64 v.k)).setCell ⟨vb,ia.toNat*3+1,none⟩ (.int .i64 v.n)).setCell ⟨vb,ia.toNat*3+2,none⟩ (.string (bs v.t))).cell? ⟨g,rp.length*4+2,none⟩=some (.slice r.v.a r.v.n r.v.c):=k2;rw[HVC.out.1,HVC.out.2] at k2';have DU:=hide Si;have dH:Hid (Fr (fun k=>Ob qf qh rp r k\/k=mb) wA (((w6.setCell ⟨vb,ia.toNat*3,none⟩ (.int .i64 v.k)).setCell ⟨vb,ia.toNat*3+1,none⟩ (.int .i64 v.n)).setCell ⟨vb,ia.toNat*3+2,none⟩ (.string (bs v.t)))):=(MB.out.trans (hfx.mono (fun k _ e=> .inl e))).trans (dZ.mono (fun k _ e=> .inl (.inr (.inr (.inl e)))));have EI:=hide kH;refine hK _ _ ⟨i6,hs6.1⟩ (fun _=>?_)
 clear hK K hHeld
 try simp only[Act.put,sA,sZ,sS]
 have hHeld:=And.intro i6 hs6.1;clear vW kH hfx Si dZ bz k2 hs6 AO hgg aab hvo;refine tk 8 ?_
 refine iP 9 (fun K hK=>?_)
 go_simp;refine hK _ _ ⟨i7,k2'⟩ (fun _=>?_)
 clear hK K hHeld
 try simp only[Act.put,sA,sZ,sS]
 refine wpAnyH_done (by kernel_rfl) ?_ _
 obtain⟨n0,n1,n2,⟨z0,z1,z2⟩,nl⟩:=bV.out _ dH.out;generalize((w6.setCell ⟨vb,ia.toNat*3,none⟩ (.int .i64 v.k)).setCell ⟨vb,ia.toNat*3+1,none⟩ (.int .i64 v.n)).setCell ⟨vb,ia.toNat*3+2,none⟩ (.string (bs v.t))=w7 at*;clear hs5 xX hi0 hi1 hi2 i6 i7 b0 b1 b2 bz0 bz1 bz2 k2'
 go_wp2_with fail
 refine bodyPost_ret (v:=je (dB)) (by simp[results,Tryz.results18,go_sem,n0,n1,n2,bs]) rfl ?_
 rw[HMQ.out];exact MR.fin (ev:=dB) HH.out.bl HH.out.ml dL.out dH.out DU.out (fun k hk=> .inl (EI.out k hk)) dF _ _ _
theorem MC (h:Mt base mb x qf qh rp r m w) (hl:rp.length<=1000) {fk ak:Nat} (hfn:m.f.fn=fk) (hat:m.f.at_=ak) (hak:ak<=100000) {c:Cz} (hc:m.pg.cs[fk]?=some c) {ia ib:Int} (hi:c.ins[ak]?=some ⟨18,ia,ib⟩) (hfu:1<=m.fuel/\m.fuel<=1000000) (hP:∀w',Fr (fun k=>Ob qf qh rp r k\/k=mb) w w'->iq w' x.sc x.sw m.pg) {st:List Val} {v:Val} (hst:m.f.stack=st++ [v]) (hs:st.length<=1000) (ht:∀w',Fr (fun k=>Ob qf qh rp r k\/k=mb) w w'->Cl.rC w') (hc0:∀c∈m.hp,cellC m.hp.length c=0) (hv:ah m.hp.length v=0) (Oo:m.hp.length<=1000) (K3:rp=[]):
 Calls Tryz.prog 18 #[.pointer (some ⟨mb,0,none⟩)] w fun e w'=>e=.returned (je ⟨4,fZ m.hp v,0⟩)/\Mz base mb x qf qh {(aW m ak).ag with fr:=[]} w'/\Fr (fun k=>Ob qf qh rp r k\/k=mb) w w':=by
 have HTT:Hid (∀w5 q,Fr (fun k=>Ob qf qh rp r k\/k=mb) w w5->Mt base mb x qf qh rp {r with at_:=(ak:Int)+1} (aW m ak) w5->q=fZ m.hp v->Calls Tryz.prog 49 #[.pointer (some ⟨mb,0,none⟩)] w5 fun e w'=>e=.returned (je ⟨4,q,0⟩)/\Mz base mb x qf qh {(aW m ak).ag with fr:=[]} w'/\Fr (fun k=>Ob qf qh rp r k\/k=mb) w5 w'):=fun w5 q cK h5 e=>by
  subst K3;rw[e];exact Mw h5 hl hst hs (fun w' hf=>ht w' (cK.trans hf)) hc0 hv Oo
 clear ht hc0 hv K3;obtain⟨tq,Xp⟩:∃y,y=fZ m.hp v:=⟨_,rfl⟩
 rw[<-Xp];have HTQ:=hide Xp;clear Xp;have FA:Fr nothing w (w.alloc (.cells #[.int .i64 0,.string ⟨#[]⟩,.int .i64 0] 39)):=(Fr.refl _ _).alloc _;have mA:=af (Fr.refl nothing (w.alloc (.cells #[.int .i64 0,.string ⟨#[]⟩,.int .i64 0] 39))) id;have dF:∀k,Ob qf qh rp r k->k<w.heap.size:=fun k hk=>(h.ob hk).2
 have hnb:¬(Ob qf qh rp r w.heap.size\/w.heap.size=mb):=fun e=>by
  rcases e with e|e
  ·have:=dF _ e;omega
  ·have:=h.mw;omega
 obtain⟨wA,iU⟩:∃y,y=w.alloc (.cells #[.int .i64 0,.string ⟨#[]⟩,.int .i64 0] 39):=⟨_,rfl⟩
 rw[<-iU] at FA mA;have bV:Hid (∀w',Fr (fun k=>Ob qf qh rp r k\/k=mb) wA w'->w'.cell? ⟨w.heap.size,0,none⟩=some (.int .i64 0)/\w'.cell? ⟨w.heap.size,1,none⟩=some (.string ⟨#[]⟩)/\w'.cell? ⟨w.heap.size,2,none⟩=some (.int .i64 0)/\(w'.frozen? ⟨w.heap.size,0,none⟩=false/\w'.frozen? ⟨w.heap.size,1,none⟩=false/\w'.frozen? ⟨w.heap.size,2,none⟩=false)/\w.heap.size<w'.heap.size):=fun w' hf=>by
  have hc:∀j,w'.cell? ⟨w.heap.size,j,none⟩=_:=fun j=>(hf.cell (p:=⟨w.heap.size,j,none⟩) mA.2.2 hnb).trans (mA.1 j)
  have hz:∀j,w'.frozen? ⟨w.heap.size,j,none⟩=_:=fun j=>(hf.frozen (p:=⟨w.heap.size,j,none⟩) mA.2.2 hnb).trans (mA.2.1 j)
  exact⟨hc 0,hc 1,hc 2,⟨hz 0,hz 1,hz 2⟩,Nat.lt_of_lt_of_le mA.2.2 hf.size⟩
 have H0:=hide (h.new FA);have dL:=hide FA;have zA:wA.heap.size=w.heap.size+1:=by rw[iU];simp
 have pQ:=iU.symm;have HH:=hide h;have KO:=hide (lY H0.out hl);have Tz:=hide hP;clear h FA mA iU hP
 go_enter Tryz.func18,Tryz.ntmps18
 go_wp2_with (go_at_call 38;refine KO.out.mono ?_;rintro e w2 ⟨⟨g,hg,rfl⟩,hf2⟩;have bq:=hide hf2;have HG:=hide hg;clear hf2 hg)
 have H2:=H0.out.new bq.out;have Mf:Hid (Fr (fun k=>Ob qf qh rp r k\/k=mb) w w2):=(dL.out.trans bq.out).mono (fun _ _ e=>e.elim);obtain⟨g',hg',gl,Mx,⟨f0,f1,f2⟩,fz,-,-⟩:=H2.goes 0;obtain rfl:g=g':=by have:=HG.out.symm.trans hg';simpa using this
 rw[hfn] at f0;rw[hat] at f1;have c2:=H2.c2;have c6:=H2.c6;have cm:=H2.ml;have VH:=H2.z 6;have hgm:g≠mb:=H2.nm g Mx;obtain⟨⟨rs,hrs,kM⟩,-⟩:=Tz.out w2 Mf.out;obtain⟨n1,m1⟩:=ay hrs;rw[kM.1] at n1 m1;have hlc:=(List.getElem?_eq_some_iff.1 hc).1;obtain⟨rc,hrc⟩:∃y,rs[fk]?=some y:=⟨_,List.getElem?_eq_getElem (by rw[kM.1];exact hlc)⟩
 have hok:=kM.2 fk rc c hrc hc;obtain⟨cg,co,ec,Gj,-,-,y2⟩:=fB (s:=x.sc) hrs hrc;obtain⟨n2,m2⟩:=ay hok.s;have hli:=(List.getElem?_eq_some_iff.1 hi).1;obtain⟨ig,io,ei,K4,u0,u1,u2⟩:=iB (s:=rc.s) hok.s hi;simp only at u0 u1 u2;rw[ei,n2] at y2;rw[ec,n1] at c2;have hb1:(fk:Int)<(m.pg.cs.length:Int):=by omega
 have hb2:(ak:Int)<(c.ins.length:Int):=by omega
 have hw1:IntKind.i64.wrap ((ak:Int)+1)=(ak:Int)+1:=aO _ (by omega) (by omega);have hw2:IntKind.i64.wrap (m.fuel-1)=m.fuel-1:=aO _ (by omega) (by omega);have iL:Hid (∀w',Fr nothing w2 w'->(w'.cell? ⟨mb,2,none⟩=some (.slice (some ⟨cg,co,none⟩) m.pg.cs.length x.sc.c)/\w'.cell? ⟨g,rp.length*4,none⟩=some (.int .i64 fk)/\w'.cell? ⟨g,rp.length*4+1,none⟩=some (.int .i64 ak))/\w'.cell? ⟨cg,co+fk*3+2,none⟩=some (.slice (some ⟨ig,io,none⟩) c.ins.length rc.s.c)/\w'.cell? ⟨ig,io+ak*3,none⟩=some (.int .i64 18)/\w'.cell? ⟨ig,io+ak*3+1,none⟩=some (.int .i64 ia)/\w'.cell? ⟨ig,io+ak*3+2,none⟩=some (.int .i64 ib)):=fun w' hf=>⟨⟨(hf.cell (p:=⟨mb,2,none⟩) cm id).trans c2,(hf.cell (p:=⟨g,_,none⟩) gl id).trans f0,(hf.cell (p:=⟨g,_,none⟩) gl id).trans f1⟩,(hf.cell (p:=⟨cg,_,none⟩) Gj id).trans y2,(hf.cell (p:=⟨ig,_,none⟩) K4 id).trans u0,(hf.cell (p:=⟨ig,_,none⟩) K4 id).trans u1,(hf.cell (p:=⟨ig,_,none⟩) K4 id).trans u2⟩
 have hS2:=iL.out _ (Fr.refl nothing w2).drew;have FI:Fr nothing w2 (w2.alloc (.cells #[.int .i64 18,.int .i64 ia,.int .i64 ib] 82)).drew:=((Fr.refl nothing w2).alloc _).drew;have mI:=af (w:=w2) (cs:=#[.int .i64 18,.int .i64 ia,.int .i64 ib]) (t:=82) (w1:=(w2.alloc (.cells #[.int .i64 18,.int .i64 ia,.int .i64 ib] 82)).drew) (S:=nothing) ((Fr.refl nothing _).drew) id;have H3:=H2.new FI;obtain⟨g3,hg3,gl3,-,-,-,H4,gm⟩:=H3.goes (ak+1);obtain rfl:g=g3:=by have:=HG.out.symm.trans hg3;simpa using this
 obtain⟨H5,cK⟩:=H4.fue (m.fuel-1);have iV:=hide H5;have aX:Hid (Fr (fun k=>Ob qf qh rp r k\/k=mb) wA (((w2.alloc (.cells #[.int .i64 18,.int .i64 ia,.int .i64 ib] 82)).drew.setCell ⟨g,rp.length*4+1,none⟩ (.int .i64 (ak+1))).setCell ⟨mb,6,none⟩ (.int .i64 (m.fuel-1)))):=(((bq.out.trans FI).mono (fun _ _ e=>e.elim)).trans (gm.mono (fun k _ e=> .inl (by rw[e];exact Mx)))).trans (cK.mono (fun k _ e=> .inr e))
 have hI:∀j,(((w2.alloc (.cells #[.int .i64 18,.int .i64 ia,.int .i64 ib] 82)).drew.setCell ⟨g,rp.length*4+1,none⟩ (.int .i64 (ak+1))).setCell ⟨mb,6,none⟩ (.int .i64 (m.fuel-1))).cell? ⟨w2.heap.size,j,none⟩=_:=fun j=>(cK.cell (p:=⟨w2.heap.size,j,none⟩) (Nat.lt_of_lt_of_le mI.2.2 gm.size) (fun e=>by have e':w2.heap.size=mb:=e;omega)).trans ((gm.cell (p:=⟨w2.heap.size,j,none⟩) mI.2.2 (fun e=>by have e':w2.heap.size=g:=e;omega)).trans (mI.1 j))
 have il:w2.heap.size<(((w2.alloc (.cells #[.int .i64 18,.int .i64 ia,.int .i64 ib] 82)).drew.setCell ⟨g,rp.length*4+1,none⟩ (.int .i64 (ak+1))).setCell ⟨mb,6,none⟩ (.int .i64 (m.fuel-1))).heap.size:=Nat.lt_of_lt_of_le (Nat.lt_of_lt_of_le mI.2.2 gm.size) cK.size;have HI:=hide hI;have sG:=hide f1;clear hI mI H3 H4 H5 gm cK FI H2 c2 f0 f1 f2 y2 u0 u1 u2 hrs kM hrc hok n1 m1 hg' hg3 gl3;refine wp_region_held_drew (S:=fun w'=>(w'.cell? ⟨mb,2,none⟩=some (.slice (some ⟨cg,co,none⟩) m.pg.cs.length x.sc.c)/\w'.cell? ⟨g,rp.length*4,none⟩=some (.int .i64 fk)/\w'.cell? ⟨g,rp.length*4+1,none⟩=some (.int .i64 ak))/\w'.cell? ⟨cg,co+fk*3+2,none⟩=some (.slice (some ⟨ig,io,none⟩) c.ins.length rc.s.c)/\w'.cell? ⟨ig,io+ak*3,none⟩=some (.int .i64 18)/\w'.cell? ⟨ig,io+ak*3+1,none⟩=some (.int .i64 ia)/\w'.cell? ⟨ig,io+ak*3+2,none⟩=some (.int .i64 ib)) (by kernel_rfl) hS2 (fun hHeld=>?_)
 refine tk 0 ?_
 refine tk 1 ?_
 refine tk 2 ?_
 refine tk 3 ?_
 refine tk 4 ?_
 refine tk 5 ?_
 refine tk 6 ?_
 refine tk 7 ?_
 refine tk 8 ?_
 refine tk 9 ?_
 refine tk 10 ?_
 refine tk 11 ?_
 refine tk 12 ?_
 refine tk 13 ?_
 refine tk 14 ?_
 refine tk 15 ?_
 refine tk 16 ?_
 refine tk 17 ?_
 refine tk 18 ?_
 refine iP 19 (fun K hK=>?_)
 go_simp;refine hK _ _ (iL.out _ ((Fr.refl nothing w2).alloc _).drew) (fun _=>?_)
 clear hK K hHeld
 try simp only[Act.put,sA,sZ,sS]
 refine iP 20 (fun K hK=>?_)
 go_simp;refine hK _ _ (iL.out _ ((Fr.refl nothing w2).alloc _).drew) (fun _=>?_)
 clear hK K
 try simp only[Act.put,sA,sZ,sS]
 refine wpAnyH_done (by kernel_rfl) ?_ _
 clear iL hS2;have c6':=(((Fr.refl nothing w2).alloc (.cells #[.int .i64 18,.int .i64 ia,.int .i64 ib] 82)).drew.cell (p:=⟨mb,6,none⟩) cm id).trans c6;have x1:=(((Fr.refl nothing w2).alloc (.cells #[.int .i64 18,.int .i64 ia,.int .i64 ib] 82)).drew.cell (p:=⟨g,rp.length*4+1,none⟩) gl id).trans sG.out;have fz3:=(((Fr.refl nothing w2).alloc (.cells #[.int .i64 18,.int .i64 ia,.int .i64 ib] 82)).drew.frozen (p:=⟨g,rp.length*4+1,none⟩) gl id).trans fz;have cz3:=(((Fr.refl nothing w2).alloc (.cells #[.int .i64 18,.int .i64 ia,.int .i64 ib] 82)).drew.frozen (p:=⟨mb,6,none⟩) cm id).trans VH;generalize(w2.alloc (.cells #[.int .i64 18,.int .i64 ia,.int .i64 ib] 82)).drew=w3 at*
 go_upto_region 5 with fail
 have dU:=aX;have gp:Hid (Mt base mb x qf qh rp {r with at_:=(ak:Int)+1} (aW m ak) ((w3.setCell ⟨g,rp.length*4+1,none⟩ (.int .i64 (ak+1))).setCell ⟨mb,6,none⟩ (.int .i64 (m.fuel-1)))):=iV;have hi0:=HI.out 0;have hi1:=HI.out 1;have hi2:=HI.out 2;clear iV aX HI sG x1 c6' c6 VH fz fz3 cz3;generalize(w3.setCell ⟨g,rp.length*4+1,none⟩ (.int .i64 (ak+1))).setCell ⟨mb,6,none⟩ (.int .i64 (m.fuel-1))=w5 at*;have iV:=gp;have aX:=dU;clear gp dU;have oJ:=aX.out.size;have Il:=hide (dL.out.mono (S':=fun k=>Ob qf qh rp r k\/k=mb) (fun _ _ e=>e.elim))
 go_wp2_with (first
  |(go_at_call 49;refine(HTT.out _ tq (Il.out.trans aX.out) iV.out HTQ.out).mono ?_;rintro e w6 ⟨rfl,mG,aR⟩;have HZ6:=hide mG;have bg:Hid (Fr (fun k=>Ob qf qh rp r k\/k=mb) wA w6):=aX.out.trans aR;obtain⟨n0,n1,n2,⟨z0,z1,z2⟩,nl⟩:=bV.out w6 bg.out;clear mG aR))
 have AJ:Fr (fun k=>k=w.heap.size) w6 (((w6.setCell ⟨w.heap.size,0,none⟩ (.int .i64 4)).setCell ⟨w.heap.size,1,none⟩ (.string (bs tq))).setCell ⟨w.heap.size,2,none⟩ (.int .i64 0)):=
  (((Fr.refl (fun k=>k=w.heap.size) w6).setCell (p:=⟨w.heap.size,0,none⟩) (.inl rfl) _).setCell (p:=⟨w.heap.size,1,none⟩) (.inl rfl) _).setCell (p:=⟨w.heap.size,2,none⟩) (.inl rfl) _
 have hmw:mb<w.heap.size:=HH.out.ml;exact bodyPost_ret (v:=je ⟨4,tq,0⟩) (by simp[results,Tryz.results18,go_sem,n0,n1,n2]) rfl ⟨rfl,HZ6.out.fr AJ (fun e=>by have e':mb=w.heap.size:=e;omega) (fun b e e2=>by
  have h1:=dF b (.inr (.inl e));have e':b=w.heap.size:=e2;omega),(Il.out.trans bg.out).then AJ (fun k hk e=>absurd e (by omega))⟩
end
end
end Go.Proofs.YtbcadjgpcfmkfaaGreatDoor
