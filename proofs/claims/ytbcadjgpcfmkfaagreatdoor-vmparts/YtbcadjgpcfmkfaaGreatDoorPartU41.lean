/- Pt; LAgent7; LGrow; LConcat; CSim; PLike; PStep; PPack; PSize; MPack0. -/
import Derived.Test.YtbcadjgpcfmkfaaGreatDoorPartU35
import Derived.Test.YtbcadjgpcfmkfaaGreatDoorPartU40
import Derived.Test.YtbcadjgpcfmkfaaGreatDoorPartU1
import Derived.Test.YtbcadjgpcfmkfaaGreatDoorPartU10
import Derived.Test.YtbcadjgpcfmkfaaGreatDoorPartU21
import Derived.Test.YtbcadjgpcfmkfaaGreatDoorPartU2
import Derived.Test.YtbcadjgpcfmkfaaGreatDoorPartU17
import Derived.Test.YtbcadjgpcfmkfaaGreatDoorPartU20
import Derived.Test.YtbcadjgpcfmkfaaGreatDoorPartU12
import Derived.Test.YtbcadjgpcfmkfaaGreatDoorPartU6
set_option maxHeartbeats 0
set_option maxRecDepth 100000
set_option linter.unusedSimpArgs false
namespace Go.Proofs.YtbcadjgpcfmkfaaGreatDoor
open Go Go.RowKit
section
def pt (s:Bs):List Fn×Int:=jM 1502 1502 s
theorem Nf (s:Bs) (w:World) (hE:Er w) (hT:rC w) (hs:s.length<=9223372036854775807):Calls Tryz.prog 24 #[.string (bs s)] w (Li w (pt s)):=by
 rcases Nat.lt_or_ge 1500 s.length with h|h
 ·exact J6 s 1502 1502 w h hs
 ·exact Fq s 1502 1502 w hE hT h (by omega) (by omega)
theorem Ls {s:Bs} (h:(pt s).2=0):(∀f∈(pt s).1,Tt f)/\xB (pt s).1<=1500/\s.length<=1500:=by
 unfold pt jM at*
 by_cases hl:1500<s.length
 ·rw[if_pos hl] at h;cases h
 ·rw[if_neg hl] at h⊢;unfold Q3 at*
  by_cases hz:(j6 1502 1502 s 0).z=0
  ·rw[if_pos hz] at h⊢;have:=FT 1502 1502 s hz;exact⟨this.1,by have:=this.2;show xB (j6 1502 1502 s 0).v<=1500;omega,by omega⟩
  ·rw[if_neg hz] at h;exact absurd h hz
theorem abk {w:World} {P:Nat->Prop} {rs:List qH} {l:List Fn} (h:Each (zO w P) rs l):Each (Ee w P) rs l/\∀r∈rs,r.p.n<=r.p.c:=by
 refine⟨⟨h.1,fun i r x hr hx=>(h.2 i r x hr hx).1⟩,fun r hr=>?_⟩
 obtain⟨i,hi,e⟩:=List.getElem_of_mem hr;have h1:rs[i]?=some r:=by rw[List.getElem?_eq_getElem hi,e]
 have h2:l[i]?=some (l[i]'(h.1▸hi)):=List.getElem?_eq_getElem _;exact(h.2 i r _ h1 h2).2
end
section
def toZ (P:Pg):Pz:=⟨P.cs.map (fun c=>⟨(c.np:Int),(c.nv:Int),c.ins⟩),P.ws⟩
theorem Ov.z {w:World} {sc sw:ai} {P:Pg} (h:Ov w sc sw P):iq w sc sw (toZ P):=by
 obtain⟨⟨rs,h1,h2⟩,h3,_,_⟩:=h;refine⟨⟨rs,h1,⟨by rw[h2.1];simp[toZ],fun i r x e1 e2=>?_⟩⟩,h3⟩
 unfold toZ at e2;simp only[List.getElem?_map] at e2;obtain⟨c,hc,rfl⟩:=Option.map_eq_some_iff.1 e2;have:=h2.2 i r c e1 hc;exact⟨this.np,this.nv,this.s⟩
abbrev b7:Bs:=[40,109,97,105,110,32,40,41,32,40,108,101,116,32,120,32,40,99,101,108,108,32,49,32,50,41,41,32,40,115,101,116,32,120,32,40,99,101,108,108,32,51,32,52,41,41,32,40,115,97,121,32,120,41,32,40,100,111,32,40,103,111,32,39,98,39,41,41,41]
abbrev f7:Fn:=⟨[109,97,105,110],[],[.mk 1 [120] [.mk 5 0 [] [.mk 1 1 [] [],.mk 1 2 [] []]] [] [],.mk 2 [120] [.mk 5 0 [] [.mk 1 3 [] [],.mk 1 4 [] []]] [] [],.mk 5 [] [.mk 3 0 [120] []] [] [],.mk 9 [] [.mk 10 0 [] [.mk 2 0 [98] []]] [] []]⟩
theorem b7l:(pt b7).1=[f7]:=by kernel_rfl
theorem b7z:(pt b7).2=0:=by kernel_rfl
abbrev i7:List In:=[⟨1,1,0⟩,⟨1,2,0⟩,⟨6,0,0⟩,⟨4,0,0⟩,⟨1,3,0⟩,⟨1,4,0⟩,⟨6,0,0⟩,⟨4,0,0⟩,⟨3,0,0⟩,⟨14,0,0⟩,⟨2,0,0⟩,⟨13,0,0⟩,⟨19,0,0⟩,⟨1,0,0⟩,⟨18,0,0⟩]
abbrev p7:Pz:=⟨[⟨0,1,i7⟩],[[98]]⟩
theorem p7k:toZ (uZ [f7]).1=p7:=by kernel_rfl
theorem p7z:aU p7=0:=by kernel_rfl
abbrev a7:Ag:=CZ 3 p7 1 50 9 2
theorem a7z:dx a7 false=0:=by kernel_rfl
theorem f7r:∀f∈ [f7],FnR [f7] f:=by
 intro f hf;have hsh:=(Ls b7z).1 f7 (by rw[b7l];simp)
 rw[List.mem_singleton.1 hf];refine⟨hsh,?_,?_,by decide⟩
 ·simp[vH,UJ,Ci,Ra]
 ·simp[xD,stU,Md,ZQ,Ef]
theorem f7n:∀f∈ [f7],∀k t a x y,St.mk k t a x y∈f.b->k≠3/\k≠4:=by
 intro f hf k t a x y h;rw[List.mem_singleton.1 hf] at h;simp only[List.mem_cons,List.not_mem_nil,or_false,St.mk.injEq] at h;omega
theorem zV {α:Type} {enc:α->List Value} {sz B:Nat} {w:World} {s:ai} {l:List α} (h:Sl enc sz w s.v l) {x:α} (hx:l[0]?=some x) {i:Nat} {u:Value} (hu:(enc x)[i]?=some u) (hb:∀j,w.cell? ⟨B,j,none⟩≠some u):∀k,(∃ao n c,s.v=.slice (some ao) n c/\ao.block=k)->¬k=B:=by
 rintro k ⟨ao,n,c,e1,e2⟩ rfl;obtain⟨ao',cap,he,_,hc⟩:=h;obtain⟨b,off,rfl,_,hcell⟩:=hc 0 x hx;rw[he] at e1;simp only[Value.slice.injEq,Option.some.injEq] at e1;obtain⟨rfl,_,_⟩:=e1;simp only at e2;subst e2;exact hb _ (hcell i _ hu)
theorem YG {w:World} {B:Nat} (hz:∀j,w.cell? ⟨B,j,none⟩=oM[j]?) {u:Value} (h0:u≠ .int .i64 0) (h1:u≠ .slice none 0 0):∀j,w.cell? ⟨B,j,none⟩≠some u:=fun j e=>by
 rw[hz j] at e
 match j,e with
 |0,e|1,e|6,e|7,e|8,e=>exact h0 (by simpa using e.symm)
 |2,e|3,e|4,e|5,e=>exact h1 (by simpa using e.symm)
 |j+9,e=>simp at e
theorem UY {w w':World} {B:Nat} {sc sw sf:ai} (h:iK w sc sw sf aN a7) (hz:∀j,w.cell? ⟨B,j,none⟩=oM[j]?) (hf:Fr (fun k=>k=B) w w'):iK w' sc sw sf aN a7:=by
 obtain⟨⟨⟨rs,h1,h2⟩,h3⟩,⟨rm,h4,h5⟩,h6⟩:=h;have hp:=fun(u:Value) (a:u≠ .int .i64 0) (b:u≠ .slice none 0 0)=>YG hz a b;obtain⟨r,hr⟩:∃r,rs[0]?=some r:=⟨_,List.getElem?_eq_getElem (by rw[h2.1];decide)⟩
 obtain⟨q,hq⟩:∃q,rm[0]?=some q:=⟨_,List.getElem?_eq_getElem (by rw[h5.1];decide)⟩
 have okr:=h2.2 0 r _ hr rfl;have okq:=h5.2 0 q _ hq rfl;have e1:r.nv=1:=okr.nv;have e2:q.v.n=1:=(ay okq.v).1;refine⟨⟨⟨rs,h1.fr hf (zV h1 hr (i:=1) (u:=.int .i64 1) (by unfold bZ;rw[e1];rfl) (hp _ (by simp) (by simp))),h2.1,fun i r' x' f1 f2=>?_⟩,h3.fr hf (zV h3 (x:=[98]) rfl (i:=0) (u:=.string (bs [98])) rfl (hp _ (by simp) (by simp)))⟩,⟨rm,h4.fr hf (zV h4 hq (i:=2) rfl (hp _ (by simp) (by simp[e2]))),h5.1,fun i r' x' f1 f2=>?_⟩,?_⟩
 ·have ok:=h2.2 i r' x' f1 f2;have hi:i=0:=by have h1:i<1:=(List.getElem?_eq_some_iff.1 f2).1;omega
  subst hi;have f2':some (⟨0,1,i7⟩:Cz)=some x':=f2;obtain rfl:=Option.some.inj f2';exact⟨ok.np,ok.nv,ok.s.fr hf (zV ok.s (x:=⟨1,1,0⟩) rfl (i:=0) (u:=.int .i64 1) rfl (hp _ (by simp) (by simp)))⟩
 ·have ok:=h5.2 i r' x' f1 f2;have hi:i=0:=by have h1:i<1:=(List.getElem?_eq_some_iff.1 f2).1;omega
  subst hi;have f2':some (⟨0,0,List.replicate 1 v0,[]⟩:Fm)=some x':=f2;obtain rfl:=Option.some.inj f2';refine⟨ok.fn,ok.at_,ok.v.fr hf (zV ok.v (x:=v0) rfl (i:=2) (u:=.string ⟨#[]⟩) rfl (hp _ (by simp) (by simp))),?_⟩
  obtain⟨ao,cap,he,hm,_⟩:=ok.s;exact⟨ao,cap,he,hm,fun i x h=>by simp at h⟩
 ·obtain⟨ao,cap,he,hm,_⟩:=h6;exact⟨ao,cap,he,hm,fun i x h=>by cases h⟩
theorem Er.zW {w w':World} (h:Er w) (hf:Fr nothing w w'):Er w':=h.fr hf id id
theorem rC.zW {w w':World} (h:rC w) (hf:Fr nothing w w'):rC w':=Lib.tabBelow_of_tabIs h w' (hf.below (Nat.le_refl _) (fun _ _=>id))
theorem Kk (w:World) (hE:Er w) (hT:rC w):
 Calls Tryz.prog 11 #[.string (bs b7)] w fun e w'=>∃sc sw sf:ai,e=.returned (.agg (gH a7 sc sw sf aN))/\Fr nothing w w'/\iK w' sc sw sf aN a7:=by
 have FA:Fr nothing w (w.alloc (.cells oM 31)):=(Fr.refl _ _).alloc _;have ma:=af (Fr.refl nothing (w.alloc (.cells oM 31))) id;obtain⟨w1,hw1⟩:∃x,x=w.alloc (.cells oM 31):=⟨_,rfl⟩
 rw[<-hw1] at FA ma;have HP:=hide (Nf b7 w1 (hE.zW FA) (hT.zW FA) (by decide));have KS:=hide ma;have dL:=hide FA;have HMK:Hid (∀(sl:ai) (rs:List qH) (w2:World),Sl ug 3 w2 sl.v rs->Each (Ee w2 (fun k=>k<w2.heap.size)) rs (pt b7).1->Calls Tryz.prog 25 #[.slice sl.a sl.n sl.c] w2 (MkP w2 (uZ [f7]))):=fun sl rs w2 h1 h2=>by
  rw[b7l] at h2;have h3:=WT h1 (fun e=>by have:=h2.1;rw[e] at this;simp at this)
  have hN:=(Ls b7z).2.1;rw[b7l] at hN;exact YF [f7] sl rs w2 h1 h2 h3 f7r (by omega) (by decide) f7n
 have HNW:Hid (∀(sc sw:ai) (w4:World),iq w4 sc sw p7->Calls Tryz.prog 26 #[.int .i64 3,.agg #[.slice sc.a sc.n sc.c,.slice sw.a sw.n sw.c],.agg #[.int .i64 50,.int .i64 9,.int .i64 2]] w4 fun e w'=>∃sf:ai,e=.returned (.agg (gH a7 sc sw sf aN))/\Fr nothing w4 w'/\iK w' sc sw sf aN a7):=fun sc sw w4 h=>Ty 3 p7 1 50 9 2 sc sw w4 h (by decide) rfl
 have Qr:=hw1.symm;clear FA ma hw1 hE hT
 go_enter Tryz.func11,Tryz.ntmps11
 go_wp2_with (first
  |(go_at_call 26;refine(HNW.out sc sw w4 vC.out).mono ?_;rintro e w5 ⟨sf,rfl,cK,Og⟩;have H15:Hid (Fr nothing w1 w5):=gX.out.trans cK;have WA:=hide Og;have dG:∀j,w5.cell? ⟨w.heap.size,j,none⟩=oM[j]?:=(fun j=>(H15.out.cell (p:=⟨w.heap.size,j,none⟩) KS.out.2.2 id).trans (KS.out.1 j));have hx6:∀j,w5.frozen? ⟨w.heap.size,j,none⟩=false:=(fun j=>(H15.out.frozen (p:=⟨w.heap.size,j,none⟩) KS.out.2.2 id).trans (KS.out.2.1 j));have TU:=Nat.lt_of_lt_of_le KS.out.2.2 H15.out.size;obtain⟨w9,h9,cA,cB,gT⟩:=Aw (w:=w5) (b:=w.heap.size) (f:=fun i=>oM.getD i (.int .i64 0)) (.int .i64 a7.id) (.int .i64 a7.bu) (.slice sc.a sc.n sc.c) (.slice sw.a sw.n sw.c) (.slice sf.a sf.n sf.c) (.slice none 0 0) (.int .i64 a7.fuel) (.int .i64 a7.cells) (.int .i64 a7.hops) (fun i hi=>by(rw[dG i];match i,hi with|0,_|1,_|2,_|3,_|4,_|5,_|6,_|7,_|8,_=>rfl));have sU:=hide dG;have r0:=dG 0;have r1:=dG 1;have r2:=dG 2;have r3:=dG 3;have r4:=dG 4;have r5:=dG 5;have r6:=dG 6;have r7:=dG 7;have r8:=dG 8;have x0:=hx6 0;have x1:=hx6 1;have x2:=hx6 2;have x3:=hx6 3;have x4:=hx6 4;have x5:=hx6 5;have x6:=hx6 6;have x7:=hx6 7;have x8:=hx6 8;have nM:=hide gT;have jw:=hide (And.intro cA cB);clear cK Og dG hx6 cA cB gT)
  |(go_at_call 25;refine(HMK.out sl rs w2 HS2.out (abk HE2.out).1).mono ?_;rintro e w3 ⟨sc,sw,rfl,hf3,Ay⟩;have h34:Fr nothing w3 (w3.alloc (.cells #[.slice sc.a sc.n sc.c,.slice sw.a sw.n sw.c] 25)):=(Fr.refl _ _).alloc _;have m4:=af (Fr.refl nothing (w3.alloc (.cells #[.slice sc.a sc.n sc.c,.slice sw.a sw.n sw.c] 25))) id;have hpz:iq w3 sc sw p7:=(by have:=Ay.z;rw[p7k] at this;exact this);obtain⟨w4,hw4⟩:∃y,w3.alloc (.cells #[.slice sc.a sc.n sc.c,.slice sw.a sw.n sw.c] 25)=y:=⟨_,rfl⟩;rw[hw4] at h34 m4;have gX:=hide (bq.out.trans (hf3.trans h34));have vC:=hide (hpz.fr h34);have b0:=m4.1 0;have b1:=m4.1 1;have bl:=m4.2.2;clear hf3 Ay h34 m4 hpz)
  |(go_at_call 24;refine HP.out.mono ?_;rintro e w2 ⟨sl,rfl,hf2,hn2,rs,hs2,he2⟩;rw[b7z];have bq:=hide hf2;have HS2:=hide hs2;have HE2:=hide he2;clear hf2 hs2 he2 hn2))
 obtain⟨⟨g0,g1,g2,g3,g4⟩,g5,g6,g7,g8⟩:=jw.out;refine bodyPost_ret (v:=.agg (gH a7 sc sw sf aN)) (by simp[results,Tryz.results11,go_sem,g0,g1,g2,g3,g4,g5,g6,g7,g8]) rfl ?_
 exact⟨sc,sw,sf,rfl,(dL.out.trans H15.out).then nM.out (fun j hj e=>by have e':j=w.heap.size:=e;omega),UY WA.out sU.out nM.out⟩
end
section
theorem FU {P:Program} {w:World} {ops:Array Oper} {rest:List Oper} {o:Oper} {a:Act} {Q:Exit->Act->World->Prop} (hgd:o.guard=none) (s x:Operand) (t u':TypeId) (ho:o.op=.call {callee:=.builtin .append,args:=#[s,x],argTypes:=#[t,u']}) (v u:Value) (hs:a.eval s=v) (hx:a.eval x=u) {r:Value} {w':World} (hrun:(Builtin.append_ #[t,u'] o.type #[v,u]).run P w=.ok r w') (h:wpList P ops Q rest (a.put o.dst r) w'):wpList P ops Q (o::rest) a w:=
 wpList_plain hgd fun K hK=>by
  unfold Oper.wp execOp;simp only[ho,resolve,invoke,builtin,Sem.run_bind,Sem.run_pure,Result.andThen_ok,List.map_toArray,List.map_cons,List.map_nil,hs,hx,hrun];exact hK _ _ h
theorem Bc:Tryz.prog.underlying 3=some (.int .i64):=by kernel_rfl
theorem uS (n:Nat) (w:World) (ty:TypeId) (h0:0<n) (hn:n<=100000):
 ∃cs:Array Value,cs.size=grownCap w n 0 53*3/\(Builtin.append_ #[49,3] ty #[.slice none 0 0,.int .i64 n]).run Tryz.prog w=.ok (.slice (some ⟨w.heap.size,0,none⟩) n (grownCap w n 0 53)) (w.drew.alloc (.cells cs 53)):=by
 obtain⟨i,hi,hz,hs,hb⟩:=info_parts H8;have hge:=grownCap_ge w n 0 53;refine⟨Builtin.zeroCells #[.int .i64 0,.int .i64 0,.string ⟨#[]⟩] n++Builtin.zeroCells #[.int .i64 0,.int .i64 0,.string ⟨#[]⟩] (grownCap w n 0 53-n),?_,?_⟩
 ·rw[Array.size_append,size_zeroCells,size_zeroCells];show n*3+(grownCap w n 0 53-n)*3=_
  omega
 have hn0:n≠0:=by omega
 have hwr:IntKind.i64.wrap (n:Int)=n:=aO _ (by omega) (by omega);have h1:¬((n:Int)<0):=by omega
 have h2:¬(281474976710656<(n:Int)*32):=by omega
 have h63':¬(9223372036854775807<(n:Int)):=by omega
 have h48':¬(281474976710656<Builtin.nextslicecap n 0*32):=by rw[nextslicecap_zero h0];omega
 have hai:(asInt (.int .i64 (n:Int))).run Tryz.prog w=.ok (n:Int) w:=by rfl
 have hzc:(Value.agg #[.int .i64 0,.int .i64 0,.string ⟨#[]⟩]).cells=#[.int .i64 0,.int .i64 0,.string ⟨#[]⟩]:=by kernel_rfl
 have h5:¬(n*3=0):=by omega
 simp[hai,h5,hzc,Builtin.append_,run_underlying Tryz.underlying49,run_underlying Bc,sizeOf,typeInfo,zeroValue,hi,hz,hs,hb,hwr,h1,h2,hn0,h63',h48',Question.forced,newRow,grownCap,run_firstCells_none]
theorem Ng (n:Nat) (w:World) (hn:n<=100000):
 Calls Tryz.prog 50 #[.slice none 0 0,.int .i64 n] w fun e w'=>∃q:ai,e=.returned (.slice q.a q.n q.c)/\Fr nothing w w'/\Own aP 53 3 w.heap.size q [] w':=by
 by_cases h0:n=0
 ·subst h0
  go_enter Tryz.func50,Tryz.ntmps50
  go_wp2
  go_ret
  exact⟨aN,rfl,Fr.refl _ _,Own.nil _ _ _ _ _⟩
 ·obtain⟨cs,hcs,hr⟩:=uS n w 49 (by omega) hn;have hpos:0<(n:Int):=by omega
  have hge:=grownCap_ge w n 0 53;have hcm:=grownCap_le_maxLen w n 0 53 (by unfold maxLen;omega)
  generalize grownCap w n 0 53=cap at*;have hF:Fr nothing w (w.drew.alloc (.cells cs 53)):=(Fr.refl nothing w).drew.alloc _;have hpu:(w.drew.alloc (.cells cs 53)).heap[w.heap.size]?=some (.cells cs 53 (0,0)):=by
   show(w.drew.heap.push _)[w.drew.heap.size]?=_
   rw[Array.getElem?_push_size]
  have hO:Own aP 53 3 w.heap.size ⟨some ⟨w.heap.size,0,none⟩,0,cap⟩ [] (w.drew.alloc (.cells cs 53)):=⟨rfl,rfl,.inr ⟨w.heap.size,cap,cs,rfl,Nat.le_refl _,hpu,Nat.zero_le _,hcm,hcs,by simp⟩⟩;have HF:=hide hF;have HO:=hide hO;have HR:=hide hr;clear hr hF hO hcs hpu;generalize w.drew.alloc (.cells cs 53)=w2 at*
  go_enter Tryz.func50,Tryz.ntmps50
  go_wp2_with (at_builtin;refine FU rfl _ _ 49 3 rfl _ _ rfl rfl HR.out ?_)
  go_ret
  exact⟨⟨some ⟨w.heap.size,0,none⟩,0,cap⟩,rfl,HF.out,HO.out⟩
end
section
def FV (r:ai):List Value:=[.slice r.a r.n r.c]
theorem FW {w:World} {s:ai} {rs:List ai} (h:Sl FV 1 w s.v rs) {i:Nat} {r:ai} (hi:rs[i]?=some r):∃b off,s.a=some ⟨b,off,none⟩/\b<w.heap.size/\w.cell? ⟨b,off+i,none⟩=some (.slice r.a r.n r.c):=by
 obtain⟨ao,cap,he,_,hc⟩:=h;obtain⟨b,off,rfl,hb,hcell⟩:=hc i r hi;simp only[Value.slice.injEq] at he;have:=hcell 0 _ rfl;exact⟨b,off,he.1,hb,by simpa using this⟩
theorem tK {ls:List (List Val)} {k:Nat} {l:List Val} (h:ls[k]?=some l):(ls.take (k+1)).flatten=(ls.take k).flatten++l:=by
 rw[List.take_add_one,h];simp
theorem Kl {ls:List (List Val)} (k:Nat):(ls.take k).flatten.length<=ls.flatten.length:=by
 conv=>rhs;rw[<-List.take_append_drop k ls]
 rw[List.flatten_append,List.length_append];omega
theorem Ga (s:ai) (rs:List ai) (ls:List (List Val)) (w:World) (hs:Sl FV 1 w s.v rs) (he:Each (fun(r:ai) (l:List Val)=>Sl aP 3 w r.v l) rs ls) (hl:ls.flatten.length<=100000) (hn:ls.length<=1000):
 Calls Tryz.prog 22 #[.slice s.a s.n s.c] w fun e w'=>∃q:ai,e=.returned (.slice q.a q.n q.c)/\Fr nothing w w'/\Own aP 53 3 w.heap.size q ls.flatten w':=by
 obtain⟨n1,m1⟩:=ay hs;rw[he.1] at n1 m1;obtain⟨sa,sn,scp⟩:=s;simp only at n1;subst n1;have HS:=hide hs;have HE:=hide he;have zD:=hide (fun k=> @Kl ls k);have HLT:=hide hl;clear hs he
 go_enter Tryz.func22,Tryz.ntmps22
 go_wp2_with fail
 go_loopw [11,3,5] (fun i v3 _ wv=>∃k:Nat,k<=ls.length/\i=.int .i64 k/\v3=.int .i64 (ls.take k).flatten.length/\Hid (Fr nothing w wv)) (fun i _ _ _=>ls.length-(intOf i).toNat)
 case atStart=>exact⟨0,Nat.zero_le _,rfl,rfl,Fr.refl _ _⟩
 case round=>
  obtain⟨k,hk,rfl,rfl,HR⟩:=hrel
  by_cases hlt:k<ls.length
  ·have hx:ls[k]?=some ls[k]:=List.getElem?_eq_getElem hlt;have hr:rs[k]?=some (rs[k]'(by rw[HE.out.1];omega)):=List.getElem?_eq_getElem _
   generalize ls[k]=l at hx;generalize rs[k]'(by rw[HE.out.1];omega)=r at hr
   have hsl:=HE.out.2 k r l hr hx;obtain⟨nr,mr⟩:=ay hsl;obtain⟨ra,rn,rc⟩:=r;simp only at nr;subst nr;obtain⟨g,o,e1,dg,u0⟩:=FW (s:=⟨sa,ls.length,scp⟩) (HS.out.fr HR.out (fun _ _=>id)) hr;simp only at e1;subst e1;simp only at u0;have hft:=tK hx;have hle:=zD.out (k+1);rw[hft,List.length_append] at hle;have hlt':=HLT.out;have hw:IntKind.i64.wrap (((ls.take k).flatten.length:Int)+l.length)=((ls.take k).flatten.length:Int)+l.length:=aO _ (by omega) (by omega);have hfl:(((ls.take (k+1)).flatten.length:Nat):Int)=((ls.take k).flatten.length:Int)+l.length:=by rw[hft,List.length_append];simp
   have Un:=hide hfl;generalize(ls.take k).flatten.length=t at*;clear hx hr hsl hft hfl hle
   go_wp2
   refine⟨⟨k+1,by omega,by go_num,by rw[Un.out],HR⟩,by simp[intOf];omega⟩
  ·obtain rfl:k=ls.length:=by omega
   rw[List.take_length];have HG:=hide (fun w'=>Ng ls.flatten.length w' hl);obtain⟨tl,htl⟩:∃t,ls.flatten.length=t:=⟨_,rfl⟩
   rw[htl] at HG HLT⊢;clear htl
   go_wp2_with (go_at_call 50;refine(HG.out _).mono ?_;rintro e w2 ⟨q0,rfl,hf2,hO2⟩;have bq:=hide (HR.out.trans hf2);have Zh:Hid (Own aP 53 3 w.heap.size q0 [] w2):=hO2.low HR.out.size;clear hf2 hO2)
   go_loopw [27,6,8] (fun i v6 _ wv=>∃(k:Nat) (q:ai),k<=ls.length/\i=.int .i64 k/\v6=.slice q.a q.n q.c/\Hid (Fr nothing w wv/\Own aP 53 3 w.heap.size q (ls.take k).flatten wv)) (fun i _ _ _=>ls.length-(intOf i).toNat)
   case atStart=>exact⟨0,q0,Nat.zero_le _,rfl,rfl,bq.out,Zh.out⟩
   case round=>
    obtain⟨k,q,hk,rfl,rfl,hR⟩:=hrel
    by_cases hlt:k<ls.length
    ·have hx:ls[k]?=some ls[k]:=List.getElem?_eq_getElem hlt;have hr:rs[k]?=some (rs[k]'(by rw[HE.out.1];omega)):=List.getElem?_eq_getElem _
     generalize ls[k]=l at hx;generalize rs[k]'(by rw[HE.out.1];omega)=r at hr
     have hsl:=(HE.out.2 k r l hr hx).fr hR.out.1 (fun _ _=>id);obtain⟨g,o,e1,dg,u0⟩:=FW (s:=⟨sa,ls.length,scp⟩) (HS.out.fr hR.out.1 (fun _ _=>id)) hr;simp only at e1;subst e1;have hft:=tK hx;have hle:=zD.out (k+1);rw[hft,List.length_append] at hle;obtain⟨q',w3,r1,o3,f3,t3⟩:=Own.app (base:=w.heap.size) Tryz.underlying49 H8 rfl (by decide) aK lZ hR.out.2 hsl hR.out.1.size (by unfold maxLen;omega) (by omega)
     rw[<-hft] at o3;have HN:=hide (And.intro (hR.out.1.then f3 (fun j hj e=>by have:=(hR.out.2.lt e).1;omega)) o3)
     have UW:=hide r1;clear hx hr hsl hft hle r1 o3 f3 t3
     go_wp2_with (at_builtin;refine aD rfl _ _ 49 rfl _ _ rfl rfl UW.out ?_)
     refine⟨⟨k+1,q',by omega,by go_num,rfl,HN.out.1,HN.out.2⟩,by simp[intOf];omega⟩
    ·obtain rfl:k=ls.length:=by omega
     rw[List.take_length] at hR
     go_wp2
     go_ret
     exact⟨q,rfl,hR.out.1,hR.out.2⟩
end
end Go.Proofs.YtbcadjgpcfmkfaaGreatDoor
section
namespace Go.pG
def mv (p:Nat->Nat) (n:Nat) (v:Val):Val:=if Ac n v then⟨v.k,(p v.n.toNat:Nat),v.t⟩ else v
def Fits (n m:Nat) (S:Nat->Prop) (v:Val):Prop:=(Ac n v=true->S v.n.toNat)/\(Ac n v=false->Ac m v=false)
structure Sim (h g:List aV) (p:Nat->Nat) (S:Nat->Prop):Prop where
 lt:∀i,S i->i<h.length/\p i<g.length
 inj:∀i j,S i->S j->p i=p j->i=j
 cell:∀i,S i->cellAt g (p i)=⟨mv p h.length (cellAt h i).l,mv p h.length (cellAt h i).r⟩
 fits:∀i,S i->Fits h.length g.length S (cellAt h i).l/\Fits h.length g.length S (cellAt h i).r
def acV (n:Nat) (v:Val):Prop:=v.k=2->0<=v.n/\v.n<n
end Go.pG
end
namespace Go.Proofs.YtbcadjgpcfmkfaaGreatDoor
open Go Go.RowKit
section
def mvV (p:Nat->Nat) (v:Val):Val:=if v.k=2 then⟨v.k,(p v.n.toNat:Nat),v.t⟩ else v
def mvC (p:Nat->Nat) (c:aV):aV:=⟨mvV p c.l,mvV p c.r⟩
def mvF (p:Nat->Nat) (f:Fm):Fm:=⟨f.fn,f.at_,f.vars.map (mvV p),f.stack.map (mvV p)⟩
def Nm (S:Nat->Prop) (v:Val):Prop:=v.k=0\/v.k=1\/(v.k=2/\0<=v.n/\S v.n.toNat)
def NmF (S:Nat->Prop) (f:Fm):Prop:=(∀v∈f.vars,Nm S v)/\∀v∈f.stack,Nm S v
structure Lk (p:Nat->Nat) (S:Nat->Prop) (h g:List aV):Prop where
 lt:∀i,S i->i<h.length/\p i<g.length
 inj:∀i j,S i->S j->p i=p j->i=j
 cell:∀i,S i->g.getD (p i) c0=mvC p (h.getD i c0)
 nm:∀i,S i->Nm S (h.getD i c0).l/\Nm S (h.getD i c0).r
structure acW (p:Nat->Nat) (S:Nat->Prop) (a b:Ag):Prop where
 id:b.id=a.id
 bu:b.bu=a.bu
 pg:b.pg=a.pg
 fuel:b.fuel=a.fuel
 cells:b.cells=a.cells
 hops:b.hops=a.hops
 fr:b.fr=a.fr.map (mvF p)
 nm:∀f∈a.fr,NmF S f
 hp:Lk p S a.hp b.hp
def Rel (x y:Ag×Ev):Prop:=y.2=x.2/\∃p S,acW p S x.1 y.1
section
variable {p : Nat → Nat} {S : Nat → Prop} {a b : Ag}
end
def Tells (sh:List aV->Val->Bs):Prop:=∀p S h g v,Lk p S h g->Nm S v->sh g (mvV p v)=sh h v
end
section
end
section
def fromV (v:pG.Val):Val:=⟨v.k,v.n,v.t.toList⟩
def Gb (c:pG.aV):aV:=⟨fromV c.l,fromV c.r⟩
theorem Rw (v:Val):fromV (sF v)=v:=by
 unfold fromV sF;rw[gY]
theorem UZ (t:ByteArray):bs t.toList=t:=by
 apply pG.LH
 rw[gY]
theorem tL (v:pG.Val):sF (fromV v)=v:=by
 unfold fromV sF;rw[UZ]
theorem Rx (c:pG.aV):Dk (Gb c)=c:=by
 unfold Gb Dk;rw[tL,tL]
def tN (a:Ag):List Val:=a.fr.flatMap fun f=>f.vars++f.stack
abbrev hpW (a:Ag):List pG.aV:=a.hp.map Dk
abbrev vsW (a:Ag):List pG.Val:=(tN a).map sF
abbrev orA (a:Ag):List Nat:=pG.dm (hpW a) (vsW a)
def NJ (a:Ag) (v:Val):Val:=fromV (pG.ren (hpW a).length (orA a) (sF v))
def rnF (a:Ag) (f:Fm):Fm:=⟨f.fn,f.at_,f.vars.map (NJ a),f.stack.map (NJ a)⟩
def zX (a:Ag):Ag:={a with fr:=a.fr.map (rnF a),hp:=(pG.CE (hpW a) (vsW a)).map Gb}
theorem Nh (a:Ag):pG.mO (hpW a) (vsW a)=((tN a).map (NJ a)).map sF:=by
 unfold pG.mO;rw[List.map_map,List.map_map];refine List.map_congr_left fun v _=>?_
 show _=sF (fromV _)
 rw[tL];rfl
structure RtV (a:Ag):Prop where
 fr:∀f∈a.fr,eB a.hp.length f
 hp:∀c∈a.hp,cellC a.hp.length c=0
end
section
structure Sb (k:Nat) (a:Ag):Prop where
 fr:a.fr.length<=12
 vs:∀f∈a.fr,f.vars.length<=k/\f.stack.length<=k
 hp:a.hp.length<=k
theorem Lt:∀(l:List Fm) (k:Nat),(∀f∈l,f.vars.length<=k/\f.stack.length<=k)->(l.flatMap fun f=>f.vars++f.stack).length<=l.length*(2*k)
 |[],_,_=>Nat.zero_le _
 |f::l,k,h=>by
  have h1:=h f (by simp);have h2:=Lt l k (fun g hg=>h g (by simp[hg]));rw[List.flatMap_cons,List.length_append,List.length_append,List.length_cons,Nat.succ_mul];omega
theorem Sb.vals {a:Ag} (h:Sb 1000 a):(tN a).length<=24000:=by
 have h1:=Lt a.fr 1000 h.vs;have h2:=Nat.mul_le_mul_right (2*1000) h.fr;unfold tN;omega
theorem Ry {a:Ag} {away:Bool} (h:dx a away=0):Sb 400 a:=by
 obtain⟨pre,f,R⟩:=qz h;have hcv:=bB.1 R.ct;have Pv:∀g q,frameC a.pg g q=0->g.vars.length<=400/\g.stack.length<=400:=fun g q hg=>by
  obtain⟨c,V,-,hs⟩:=eZ.1 hg;have h1:=gU R.pg (List.mem_of_getElem? V.cd);have h2:=V.vars;have h3:=qP c g.at_.toNat;constructor
  ·omega
  ·split at hs<;>omega
 refine⟨by omega,fun g hg=>?_,by omega⟩
 rw[R.fr] at hg;rcases List.mem_append.1 hg with hg|hg
 ·obtain⟨k,hk⟩:=List.mem_iff_getElem?.1 hg;exact Pv g _ (R.pr k g hk).1
 ·rw[List.mem_singleton.1 hg];exact Pv f _ R.tp
theorem Sb.low {k m:Nat} {a:Ag} (h:Sb k a) (hk:k<=m):Sb m a:=⟨h.fr,fun f hf=>by have:=h.vs f hf;omega,Nat.le_trans h.hp hk⟩
end
section
section
variable {α : Type} {enc : α → List Value} {T Ts sz bytes base : Nat} {z : Value}
theorem fF.copy (hu:Tryz.prog.underlying Ts=some (.slice T)) (Au:(Tryz.prog.info? T).map (fun i=>(i.zero,i.size,i.bytes))=some (some z,sz,bytes)) (hsz:0<sz) (he:∀x,(enc x).length=sz) (h1:∀x,∀u∈enc x,u.oneCell'=true)
 {q x:ai} {xs ys:List α} {w:World} (h:fF enc T sz base q xs w) (hs:Sl enc sz w x.v ys) (ty:TypeId):
 ∃w',(Builtin.copy_ #[Ts,Ts] ty #[.slice q.a q.n q.c,.slice x.a x.n x.c]).run Tryz.prog w=.ok (goInt (Nat.min ys.length xs.length)) w'/\fF enc T sz base q (ys.take xs.length++xs.drop ys.length) w'/\Fr (fun k=>q.ob=some k) w w':=by
 by_cases hc:q.c=0
 ·rcases h.row with h2|h2
  ·exact absurd hc h2.1
  obtain⟨j0,hj0,hy0,hy1,hy2⟩:=info_parts Au;obtain⟨hn,hm⟩:=ay hs;have hnq:=h.n;rw[h2.2] at hnq⊢;obtain⟨xa,xn,xc⟩:=x;obtain⟨qa,qn,qc⟩:=q;simp only at hn hnq hc;subst hn hnq;have hk:Nat.min ys.length ([]:List α).length=0:=by
   have:Nat.min ys.length ([]:List α).length=min ys.length ([]:List α).length:=rfl;rw[this];simp
  refine⟨w,?_,⟨by simp,.inr ⟨hc,by simp⟩⟩,Fr.refl _ _⟩
  have hl:∀(x:Addr),(loadCells x 0).run Tryz.prog w=.ok #[] w:=fun x=>by simpa using run_loadCells_list (P:=Tryz.prog) w x [] (by simp)
  have hk0:Nat.min ys.length 0=0:=hk;cases qa<;>cases xa<;>simp[Builtin.copy_,run_underlying hu,Builtin.lenOf,Builtin.firstCells,sizeOf,typeInfo,hj0,hk0,storeCells,hl]
 ·obtain⟨w',r1,r2,r3⟩:=(h.own hc).copy hu Au hsz he h1 hs ty;exact⟨w',r1,r2.WW,r3.mono (fun k _ e=>(xO hc).trans e)⟩
end
theorem Fw.copied {B:Nat} {qf:ai} {rs:List aQ} {n k:Nat} {fs:List Fm} {w w':World} (h:Fw B qf rs n fs w) (hk:k<n) {r:aQ} (hr:rs[k]?=some r) {f:Fm} (hf:Fo B r f w') (hw:Fr (fun b=>r.v.ob=some b\/r.s.ob=some b) w w'):Fw B qf rs n (fs.set k f) w':=by
 have BS:k<fs.length:=by rw[<-h.len];exact(List.getElem?_eq_some_iff.1 hr).1
 obtain⟨f0,hf0⟩:∃y,fs[k]?=some y:=⟨_,List.getElem?_eq_getElem BS⟩
 have hat:=h.ep k r f0 hk hr hf0;refine⟨h.row.fr hw (fun b e e2=>?_),by rw[List.length_set];exact h.len,fun i q g hi e1 e2=>?_,h.AA⟩
 ·rcases e2 with e2|e2
  ·exact hat.2.1 b e e2
  ·exact hat.2.2 b e e2
 ·by_cases hik:i=k
  ·subst hik;rw[hr] at e1;cases e1
   rw[List.getElem?_set_self BS] at e2;cases e2
   exact⟨hf,hat.2⟩
  ·rw[List.getElem?_set_ne (by omega)] at e2;obtain⟨a1,a2⟩:=h.ep i q g hi e1 e2;have hd:=h.AA i k q r hi hk hik e1 hr;refine⟨a1.fr hw (fun b e e2=>?_) (fun b e e2=>?_),a2⟩
   ·rcases e2 with e2|e2
    ·exact hd.1.1 b e e2
    ·exact hd.1.2 b e e2
   ·rcases e2 with e2|e2
    ·exact hd.2.1 b e e2
    ·exact hd.2.2 b e e2
theorem Rz {w:World} {q:ai} {l:List pG.Val} (h:Sl Cl.aP 3 w q.v l):Sl aP 3 w q.v (l.map fromV):=by
 obtain⟨ao,cap,he,hm,hc⟩:=h;refine⟨ao,cap,by rw[he,List.length_map],by rw[List.length_map];exact hm,fun i x hx=>?_⟩
 rw[List.getElem?_map] at hx;obtain⟨y,hy,rfl⟩:=Option.map_eq_some_iff.1 hx;obtain⟨b,off,e,hb,hcell⟩:=hc i y hy;exact⟨b,off,e,hb,fun j u hu=>hcell j u (by rw[<-tL y,KT];exact hu)⟩
theorem RA {w:World} {q:ai} {l:List pG.aV} (h:Sl Cl.bZ 6 w q.v l):Sl jv 6 w q.v (l.map Gb):=by
 obtain⟨ao,cap,he,hm,hc⟩:=h;refine⟨ao,cap,by rw[he,List.length_map],by rw[List.length_map];exact hm,fun i x hx=>?_⟩
 rw[List.getElem?_map] at hx;obtain⟨y,hy,rfl⟩:=Option.map_eq_some_iff.1 hx;obtain⟨b,off,e,hb,hcell⟩:=hc i y hy;exact⟨b,off,e,hb,fun j u hu=>hcell j u (by rw[<-Rx y,KU];exact hu)⟩
theorem Km (hp:List aV) (l:List Val) (q x:ai) (w:World) (hh:Sl jv 6 w q.v hp) (hl:Sl aP 3 w x.v l) (h1:hp.length<=1000) (h2:l.length<=100000):
 Calls Tryz.prog 23 #[.slice q.a q.n q.c,.slice x.a x.n x.c] w fun e w'=>∃xq kq:ai,e=.returned (.tuple #[.slice xq.a xq.n xq.c,.slice kq.a kq.n kq.c])/\Sl aP 3 w' xq.v ((pG.mO (hp.map Dk) (l.map sF)).map fromV)/\Sl jv 6 w' kq.v ((pG.CE (hp.map Dk) (l.map sF)).map Gb)/\Fr nothing w w'/\(xq.n=l.length/\xq.c=l.length)/\(∀b,xq.v.ownBlock=some b->w.heap.size<=b)/\∀b,kq.v.ownBlock=some b->w.heap.size<=b:=by
 refine(Cl.L9 (hp.map Dk) (l.map sF) (.slice q.a q.n q.c) (.slice x.a x.n x.c) w (OZ hh) (Xm hl) (by rw[List.length_map];omega) (by rw[List.length_map];omega)).mono ?_
 rintro e w' ⟨xv,kv,rfl,hx,hk,hb,rfl,hkb⟩;obtain⟨ka,kc,rfl,-,-⟩:=id hk;rw[List.length_map] at hx;exact⟨⟨some ⟨w.heap.size+4,0,none⟩,l.length,l.length⟩,⟨ka,_,kc⟩,by rw[List.length_map],Rz hx,RA hk,Fr.of_below hb (Nat.le_refl _) nothing,⟨rfl,rfl⟩,fun b e=>by
  have:w.heap.size+4=b:=by simpa[ai.v,Value.ownBlock] using e
  omega,hkb⟩
end
end Go.Proofs.YtbcadjgpcfmkfaaGreatDoor
