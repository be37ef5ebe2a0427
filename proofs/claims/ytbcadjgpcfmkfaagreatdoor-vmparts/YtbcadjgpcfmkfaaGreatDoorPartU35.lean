/- Stmt; ClosP; Parse; Elem0. -/
import Derived.Deep.Upon
import Derived.Test.YtbcadjgpcfmkfaaGreatDoorPartU31
import Derived.Test.YtbcadjgpcfmkfaaGreatDoorPartU32
import Derived.Test.YtbcadjgpcfmkfaaGreatDoorPartU33
import Derived.Test.YtbcadjgpcfmkfaaGreatDoorPartU34
import Derived.Test.YtbcadjgpcfmkfaaGreatDoorPartU1
import Derived.Test.YtbcadjgpcfmkfaaGreatDoorPartU28
import Derived.Test.YtbcadjgpcfmkfaaGreatDoorPartU7
set_option maxHeartbeats 0
set_option maxRecDepth 100000
set_option linter.unusedSimpArgs false
namespace Go.Proofs.YtbcadjgpcfmkfaaGreatDoor
open Go Go.RowKit
section
theorem MW (v:Bs):kindOf v<=9:=by
 unfold kindOf
 repeat (split;omega)
 omega
set_option maxHeartbeats 400000 in
set_option maxRecDepth 20000 in
theorem Fj (rb:Nat) (l:Bs) (z d:Int) (w:World) (h:Pr rb l z w) (hz:bE d z≠0):
 Calls Tryz.prog 69 #[.pointer (some ⟨rb,0,none⟩),.int .i64 d] w (cO sv gy rb w ⟨st0,l,bE d z⟩):=by
 have hF1:Fr nothing w (w.alloc (.cells #[.int .i64 0,.string ⟨#[]⟩,.slice none 0 0,.slice none 0 0,.slice none 0 0] 136)):=(Fr.refl _ w).alloc _;have HD:=hide (dN rb l z d _ (h.fr hF1 id));have hrb:=h.lt;have hz':(bE d z==0)=false:=by simpa using hz
 rw[hz'] at HD;clear h hz' hF1
 go_enter Tryz.func69,Tryz.ntmps69
 go_wp2_with (go_at_call 79;refine HD.out.mono ?_;rintro e w2 ⟨rfl,hp,hf⟩;obtain⟨y0,y1,y2,y3,y4,yf,yl⟩:=(B5.made w (.int .i64 0) (.string ⟨#[]⟩) (.slice none 0 0) (.slice none 0 0) (.slice none 0 0) 136).fr hf (by show ¬w.heap.size=rb;omega);have yf0:=yf 0;have yf1:=yf 1;have yf2:=yf 2;have yf3:=yf 3;have yf4:=yf 4;have HP:=hide hp;have HF:=hide hf;clear hp hf yf)
 refine bodyPost_ret (v:=sv ⟨0,[],aN,aN,aN⟩) (by simp[results,Tryz.results69,go_sem,y0,y1,y2,y3,y4,bs]) rfl ?_
 exact qZ (B:=w.heap.size+1) (res:=⟨st0,l,bE d z⟩) hrb (((Fr.refl (at_ rb) w).alloc _).trans HF.out) HP.out rfl (by omega) nI.nil nI.nil nI.nil _ _ _ _ _
theorem parts_eq (e:Reader Ex) (nest:Reader (List St)) (k:Nat) (l:Bs) (z:Int):parts e nest k l z=⟨.mk k (optName k l z).v (times e (aA k) (optName k l z).l (optName k l z).z).v (fG nest k (times e (aA k) (optName k l z).l (optName k l z).z).l (times e (aA k) (optName k l z).l (optName k l z).z).z).v.1 (fG nest k (times e (aA k) (optName k l z).l (optName k l z).z).l (times e (aA k) (optName k l z).l (optName k l z).z).z).v.2,(fG nest k (times e (aA k) (optName k l z).l (optName k l z).z).l (times e (aA k) (optName k l z).l (optName k l z).z).z).l,(fG nest k (times e (aA k) (optName k l z).l (optName k l z).z).l (times e (aA k) (optName k l z).l (optName k l z).z).z).z⟩:=rfl
theorem Fp (w0:World) (rb N:Nat) (hN:1502<=N):∀(k:Nat) (d:Int) (l:Bs) (z:Int) (w:World),d=11-(k:Int)->k<=11->Pw w0 rb l z w->
 Calls Tryz.prog 69 #[.pointer (some ⟨rb,0,none⟩),.int .i64 d] w (cO sv gy rb w (stmt N k l z))
 |0,d,l,z,w,hd,_,h=>by
  have e:bE d z=bad z 9:=by simp[bE];omega
  have:=Fj rb l z d w h.pr (by rw[e];exact nQ _ _ (by decide));rw[e] at this;exact this
 |k+1,d,l,z,w,hd,hk,h=>by
  by_cases hz:z=0
  ·subst hz;have hone:∀l z w,Pw w0 rb l z w->Calls Tryz.prog 80 #[.pointer (some ⟨rb,0,none⟩),.int .i64 (d+1)] w (cO ev bF rb w (expr N k l z)):=fun l z w h=>Fh w0 rb N hN k (d+1) l z w (by omega) (by omega) h
   have vG:∀l z w,Pw w0 rb l z w->Calls Tryz.prog 58 #[.pointer (some ⟨rb,0,none⟩),.int .i64 (d+1)] w (vF rb w (aB (stmt N k) N l z)):=fun l z w h=>
    BZ w0 rb (d+1) (stmt N k) N hN (Be N k) (iF N k) (by omega) (by omega) (fun l w h=>Fp w0 rb N hN k (d+1) l 0 w (by omega) (by omega) h) l z w h
   obtain⟨⟨⟩,l1,z1,hm⟩:∃u l1 z1,must 40 l 0=⟨u,l1,z1⟩:=⟨_,_,_,rfl⟩
   obtain⟨v,l2,z2,hw⟩:∃v l2 z2,word l1 z1=⟨v,l2,z2⟩:=⟨_,_,_,rfl⟩
   have e:stmt N (k+1) l 0=parts (expr N k) (aB (stmt N k) N) (kindOf v) l2 (if kindOf v=0 then bad z2 1 else z2):=by
    rw[stmt];simp only[if_true,D5,hm,hw]
   rw[e,parts_eq];have hle:=MW v;obtain⟨c,hc⟩:∃c,kindOf v=c:=⟨_,rfl⟩
   rw[hc] at hle⊢;have hes:=jm N k;have hel:=Bd N k;have Ah:=mK N k
   by_cases h0:c=0
   ·have e1:optName c l2 (if c=0 then bad z2 1 else z2)=⟨[],l2,bad z2 1⟩:=by simp[optName,h0]
    rw[e1];have:=MS w0 rb l d w h (by omega) (by omega) (expr N k) hes hel Ah hone hm hw hc h0 rfl;simpa[fG,h0] using this
   ·rw[if_neg h0]
    by_cases h1:c=1
    ·obtain⟨nm,l3,z3,hnm⟩:∃nm l3 z3,name l2 z2=⟨nm,l3,z3⟩:=⟨_,_,_,rfl⟩
     have e1:optName c l2 z2=⟨nm,l3,z3⟩:=by simp[optName,h1,hnm]
     rw[e1];have:=QV w0 rb l d w h (by omega) (by omega) (expr N k) hes hel Ah hone hm hw hc h1 hnm rfl;simpa[fG,h1] using this
    ·by_cases h2:c=2
     ·obtain⟨nm,l3,z3,hnm⟩:∃nm l3 z3,name l2 z2=⟨nm,l3,z3⟩:=⟨_,_,_,rfl⟩
      have e1:optName c l2 z2=⟨nm,l3,z3⟩:=by simp[optName,h2,hnm]
      rw[e1];have:=QW w0 rb l d w h (by omega) (by omega) (expr N k) hes hel Ah hone hm hw hc h2 hnm rfl;simpa[fG,h2] using this
     ·have e1:optName c l2 z2=⟨[],l2,z2⟩:=by simp[optName,h1,h2]
      rw[e1]
      by_cases h3:c=3
      ·have:=Ul w0 rb l d w h (by omega) (by omega) (expr N k) hes hel Ah hone (aB (stmt N k) N) vG (dR (iF N k) N) hm hw hc h3 rfl;rw[h3] at this⊢;exact this
      ·by_cases h4:c=4
       ·have:=JX w0 rb l d w h (by omega) (by omega) (expr N k) hes hel Ah hone (aB (stmt N k) N) vG hm hw hc h4 rfl;simpa[fG,h4] using this
       ·have:=JY w0 rb l d w h (by omega) (by omega) (expr N k) hes hel Ah hone hm hw hc (by omega) (by omega) rfl;simpa[fG,h3,h4] using this
  ·have e:bE d z=z:=by simp[bE];omega
   have e2:stmt N (k+1) l z=⟨st0,l,z⟩:=by unfold stmt;rw[if_neg hz]
   rw[e2];have:=Fj rb l z d w h.pr (by rw[e];exact hz)
   rw[e] at this;exact this
end
section
theorem Yg:(Tryz.prog.info? 9).map (fun i=>(i.zero,i.size,i.bytes))=some (some (.string ⟨#[]⟩),1,16):=by kernel_rfl
set_option maxHeartbeats 1000000 in
set_option maxRecDepth 20000 in
theorem clP (w0:World) (rb:Nat) (w1:World) (bp bx:Nat) (acc:List Bs) (l:Bs) (w:World)
 (hcp:w1.cell? ⟨bp,0,none⟩=some (.pointer (some ⟨rb,0,none⟩))) (hbx:bx<w1.heap.size) (hrb:rb<w1.heap.size)
 (hne:bp≠rb/\bp≠bx/\bx≠rb) (hw0:w0.heap.size<=bx/\w0.heap.size<=w1.heap.size) (hfz:w1.frozen? ⟨bx,1,none⟩=false)
 (hJ:JL w0 rb 9 1 jP CQ w1 bx 1 acc l 0 w):
 Calls Tryz.prog 57 #[.pointer (some ⟨bx,0,none⟩),.pointer (some ⟨bp,0,none⟩)] w fun e w'=>e=.returned (.tuple #[])/\JL w0 rb 9 1 jP CQ w1 bx 1 (acc++ [(name l 0).v]) (name l 0).l (name l 0).z w':=by
 obtain⟨⟨va,vn,vc⟩,hx3,hrow⟩:=hJ.row;obtain rfl:vn=acc.length:=by
  obtain⟨a,c,h⟩:=hrow.shape;cases h;rfl
 have MP:bp<w1.heap.size:=lt_of_cell hcp;have a1:w.cell? ⟨bp,0,none⟩=some (.pointer (some ⟨rb,0,none⟩)):=(hJ.fr.cell (p:=⟨bp,0,none⟩) MP (by show ¬(bp=rb\/bp=bx);omega)).trans hcp
 have hsz1:=hJ.fr.size;have l1:bp<w.heap.size:=by omega
 have l3:bx<w.heap.size:=by omega
 have fx:w.frozen? ⟨bx,1,none⟩=false:=(hJ.fz 1).trans hfz;have hacc:acc.length<=1500:=by have:=hJ.le rfl;omega
 have HC:=hide (pV rb l 0 w.drew hJ.pw.pr.drew hJ.pw.len);have HJ:=hide hJ;have HR:=hide hrow;have HL:Hid ((name l 0).z=0->(name l 0).l.length<l.length):=tX l;have Sy:Hid ((name l 0).l.length<=l.length):=fJ l 0;clear hJ hcp hrow;obtain⟨j0,hj0,hy0,hy1,hy2⟩:=info_parts Yg;have frame:∀w',Fr (at_ rb) w w'->w'.cell? ⟨bx,1,none⟩=some (.slice va acc.length vc)/\w'.cell? ⟨bp,0,none⟩=some (.pointer (some ⟨rb,0,none⟩)):=fun w' hf=>
  ⟨(hf.cell (p:=⟨bx,1,none⟩) l3 (by show ¬bx=rb;omega)).trans hx3,(hf.cell (p:=⟨bp,0,none⟩) l1 (by show ¬bp=rb;omega)).trans a1⟩
 have fV:=hide frame;clear frame
 go_enter Tryz.func57,Tryz.ntmps57
 refine aS (S:=fun w'=>w'.cell? ⟨bx,1,none⟩=some (.slice va acc.length vc)/\w'.cell? ⟨bp,0,none⟩=some (.pointer (some ⟨rb,0,none⟩))) (by kernel_rfl) [7] ?_ (fun hHeld=>?_)
 ·exact⟨hx3,a1⟩
 refine bM 0 ?_
 refine bM 1 ?_
 refine bM 2 ?_
 refine jN 3 (fun K hK=>?_)
 refine aF rfl 55 Tryz.f55 #[.tmp 4] #[109] rfl Tryz.func55 (by kernel_rfl) (by kernel_rfl) #[.pointer (some ⟨rb,0,none⟩)] (by simp[Act.eval]) _ HC.out ?_
 rintro e w2 ⟨rfl,hP2,hF2⟩;have F2:Fr (at_ rb) w w2:=((Fr.refl _ w).drew).trans hF2;refine⟨_,rfl,hK.out _ _ (fV.out _ F2) ?_⟩
 clear hK K hHeld;have hHeld:=fV.out _ F2
 try simp only[Act.put,sA,sZ,sS]
 refine jN 4 (fun K hK=>?_)
 go_simp;refine hK.out _ _ (fV.out _ (F2.alloc _)) ?_
 clear hK K hHeld;have FA:Fr (at_ rb) w (w2.alloc (.cells #[.string (bs (name l 0).v)] 9)):=F2.alloc _;have hHeld:=fV.out _ FA
 try simp only[Act.put,sA,sZ,sS]
 have PA:Pr rb (name l 0).l (name l 0).z (w2.alloc (.cells #[.string (bs (name l 0).v)] 9)):=hP2.fr ((Fr.refl nothing w2).alloc _) id;have NW:∀j u,([.string (bs (name l 0).v)]:List Value)[j]?=some u->(w2.alloc (.cells #[.string (bs (name l 0).v)] 9)).cell? ((⟨w2.heap.size,0,none⟩:Addr).add j)=some u:=World.news_of_block (cs:=#[.string (bs (name l 0).v)]) (t:=9) (fr:=(0,0)) (bW _ _)
 have PW:Pw w0 rb (name l 0).l (name l 0).z (w2.alloc (.cells #[.string (bs (name l 0).v)] 9)):=HJ.out.pw.of PA Sy.out FA;obtain⟨rs,hown,hbase,iD⟩:=HR.out;have bL:(w2.alloc (.cells #[.string (bs (name l 0).v)] 9)).ownsRow w1.heap.size 9 1 (.slice va acc.length vc) acc.length (rs.flatMap jP):=aI hown FA (fun k hk e=>by have:=(hown.lt k hk).1;have:k=rb:=e;omega)
 have sQ:w1.heap.size<=(w2.alloc (.cells #[.string (bs (name l 0).v)] 9)).heap.size:=Nat.le_trans hsz1 FA.size;have OF:=bX bL (b:=bx) hbx;have gx:bx<(w2.alloc (.cells #[.string (bs (name l 0).v)] 9)).heap.size:=by omega
 have AV:(w2.alloc (.cells #[.string (bs (name l 0).v)] 9)).frozen? ⟨bx,1,none⟩=false:=(FA.frozen (p:=⟨bx,1,none⟩) l3 (by show ¬bx=rb;omega)).trans fx;have kN:=hide bL;have lC:=hide PW;have dL:=hide FA;clear iD hown bL PW FA PA;refine jN 5 (fun K hK=>?_)
 refine step_append_lies _ (by rfl) (.tmp 3) (.tmp 6) 23 (by rfl) w1.heap.size 9 j0 _ 1 16 Tryz.underlying23 hj0 hy0 hy1 hy2 rfl (by decide) (.slice va acc.length vc) acc.length _ (by simp[Act.eval]) kN.out ⟨w2.heap.size,0,none⟩ 1 1 [.string (bs (name l 0).v)] (by simp[Act.eval]) rfl NW (by simp[Value.oneCell']) (by decide) (by unfold maxLen;omega) (by omega) sQ _ rfl ?_
 intro g cp w6 dG gJ gL AY;have k3:w6.cell? ⟨bx,1,none⟩=some (.slice va acc.length vc):=(gJ.cell_far ⟨bx,1,none⟩ gx OF).trans hHeld.1;have kz:w6.frozen? ⟨bx,1,none⟩=false:=(gJ.frozen_far ⟨bx,1,none⟩ gx OF).trans AV;have k6:bx<w6.heap.size:=by have:=gJ.size;omega
 have k4:w6.cell? ⟨bp,0,none⟩=some (.pointer (some ⟨rb,0,none⟩)):=(gJ.cell_far ⟨bp,0,none⟩ (by show bp<_;omega) (bX kN.out (b:=bp) MP)).trans hHeld.2;have sU:=hide dG;have qd:=hide gJ;have HAT:=hide gL;clear dG gJ gL NW;refine hK.out _ _ ⟨k3,k4⟩ ?_
 clear hK K hHeld;have hHeld:w6.cell? ⟨bx,1,none⟩=some (.slice va acc.length vc)/\w6.cell? ⟨bp,0,none⟩=some (.pointer (some ⟨rb,0,none⟩)):=⟨k3,k4⟩
 try simp only[Act.put,sA,sZ,sS]
 refine bM 6 ?_
 refine Al 7 (fun K hK=>?_)
 go_simp;refine hK.out _ _ ?_
 clear hK K
 try simp only[Act.put,sA,sZ,sS]
 refine wpAny_done (by kernel_rfl) ?_ _
 go_end0
 refine⟨rfl,?_⟩
 exact JL.push lN rV hbx hrb hne.2.2 hw0 (r:=(name l 0).v) (us:=[.string (bs (name l 0).v)]) HJ.out HR.out dL.out lC.out rfl HL.out kN.out sU.out qd.out HAT.out (Nat.le_refl _) rfl rfl k3 (.inr (.inr ⟨rfl,rfl⟩))
end
section
def zO (w:World) (P:Nat->Prop) (r:qH) (f:Fn):Prop:=Ee w P r f/\r.p.n<=r.p.c
theorem mo:kV zO:=fun _ _ _ _ _ r x h hf hp hq=>⟨xz _ _ _ _ _ r x h.1 hf hp hq,h.2⟩
theorem Ur {ρ α:Type} {E sz:Nat} {enc:ρ->List Value} {ok:World->(Nat->Prop)->ρ->α->Prop} {base:Nat} {s:ai} {l:List α} {w:World} (h:Row E sz enc ok base s.v l w):s.n<=s.c:=by
 obtain⟨rs,⟨_,h1⟩,_⟩:=h;rcases h1 with⟨h1,_⟩|⟨g,cap,cur,h1,_,_,h2,_⟩
 ·simp only[ai.v,Value.slice.injEq] at h1;omega
 ·simp only[ai.v,Value.slice.injEq] at h1;omega
def Q3 (q:Rd (List Fn)):List Fn×Int:=if q.z=0 then(q.v,0) else([],q.z)
def jM (N n:Nat) (s:Bs):List Fn×Int:=
 if 1500<s.length then([],4) else Q3 (j6 N n s 0)
def Li (w:World) (res:List Fn×Int) (e:Ending) (w':World):Prop:=
 ∃s:ai,e=.returned (.tuple #[.slice s.a s.n s.c,.int .i64 res.2])/\Fr nothing w w'/\s.n=res.1.length/\∃rs,Sl ug 3 w' s.v rs/\Each (zO w' (fun k=>k<w'.heap.size)) rs res.1
theorem Cf {w w':World} (z:Int) (hf:Fr nothing w w'):Li w ([],z) (.returned (.tuple #[.slice none 0 0,.int .i64 z])) w':=
 ⟨aN,rfl,hf,rfl,[],⟨none,0,rfl,by unfold maxLen;simp,fun i x h=>by simp at h⟩,rfl,fun i r x h=>by simp at h⟩
theorem Yh:(Tryz.prog.info? 117).map (fun i=>(i.zero,i.size,i.bytes))=some (some (.agg #[.string ⟨#[]⟩,.slice none 0 0,.slice none 0 0]),3,64):=by kernel_rfl
structure B3 (b:Nat) (v0 v1 v2:Value) (w:World):Prop where
 c0:w.cell? ⟨b,0,none⟩=some v0
 c1:w.cell? ⟨b,1,none⟩=some v1
 c2:w.cell? ⟨b,2,none⟩=some v2
 f:∀j,w.frozen? ⟨b,j,none⟩=false
 lt:b<w.heap.size
theorem B3.fr {b:Nat} {v0 v1 v2:Value} {w w':World} {S:Nat->Prop} (h:B3 b v0 v1 v2 w) (hf:Fr S w w') (hs:¬S b):B3 b v0 v1 v2 w':=
 ⟨(hf.cell (p:=⟨b,0,none⟩) h.lt hs).trans h.c0,(hf.cell (p:=⟨b,1,none⟩) h.lt hs).trans h.c1,(hf.cell (p:=⟨b,2,none⟩) h.lt hs).trans h.c2,fun j=>(hf.frozen (p:=⟨b,j,none⟩) h.lt hs).trans (h.f j),Nat.lt_of_lt_of_le h.lt hf.size⟩
theorem B3.made (w:World) (v0 v1 v2:Value) (t:TypeId):B3 w.heap.size v0 v1 v2 (w.alloc (.cells #[v0,v1,v2] t)):=by
 have hn:=af (Fr.refl nothing (w.alloc (.cells #[v0,v1,v2] t))) id;exact⟨hn.1 0,hn.1 1,hn.1 2,hn.2.1,hn.2.2⟩
theorem zP {w:World} {P:Nat->Prop} {rs xs:List Bs} (h:Each (CQ w P) rs xs):rs=xs:=by
 apply List.ext_getElem?
 intro i;rcases Nat.lt_or_ge i rs.length with hi|hi
 ·have h1:rs[i]?=some rs[i]:=List.getElem?_eq_getElem hi;have h2:xs[i]?=some (xs[i]'(h.1▸hi)):=List.getElem?_eq_getElem _;have:=h.2 i _ _ h1 h2;rw[h1,h2];exact congrArg some this
 ·rw[List.getElem?_eq_none hi,List.getElem?_eq_none (h.1▸hi)]
theorem aaM {w wu wv:World} {rb bf B:Nat} {nm:Bs} {ps:List Bs} {bd:List St} {w0:World} {wm:World} {l:Bs} {z:Int} {sp st:ai} (hJ:JL w0 rb 9 1 jP CQ wm bf 1 ps l z wu) (hsp:wu.cell? ⟨bf,1,none⟩=some sp.v) (hF:Fr (at_ rb) wu wv)
 (hrb:rb<B) (hB:B<=wm.heap.size) (hbf:bf<wm.heap.size) (hL:nI encS 5 gy wu.heap.size wv st bd) (hw:Fr (fun k=>k=bf) wv w):zO w (fun k=>B<=k/\k<w.heap.size) ⟨nm,sp,st⟩ ⟨nm,ps,bd⟩:=by
 obtain⟨s',h1,h2⟩:=hJ.row;have hsz:=hJ.fr.size;obtain rfl:s'=sp:=by
  rw[h1] at hsp;have e:=Option.some.inj hsp;obtain⟨a,b,c⟩:=s';obtain⟨a',b',c'⟩:=sp;simp only[Value.slice.injEq] at e;obtain⟨rfl,rfl,rfl⟩:=e;rfl
 have hcap:=Ur h2;obtain⟨rs,k1,k2,k3⟩:=h2.done lN rV (B:=wm.heap.size) (Nat.le_refl _);have hrs:=zP k3;subst hrs;have hG:nI jP 1 CQ wm.heap.size wu s' rs:=⟨rs,k1,k2,k3⟩;obtain⟨rs2,g1,g2,g3⟩:=((hG.fr lN hF (fun k e=>by have:k=rb:=e;omega)).fr lN hw (fun k e=>by omega)).since lN hB
 have acw:=zP g3;subst acw;have hsz2:=hF.size;obtain⟨rs3,q1,q2,q3⟩:=(hL.fr aT hw (fun k e=>by omega)).since aT (B':=B) (by omega);exact⟨⟨rfl,g1,g2,⟨rs3,q1,q3⟩,q2⟩,hcap⟩
theorem Us (N:Nat) {m:Nat} (hm:0<m) {l:Bs} (hs:skip l=[]):j6 N m l 0=⟨[],[],0⟩:=by
 obtain⟨k,rfl⟩:∃k,m=k+1:=⟨m-1,by omega⟩
 simp[j6,hs]
theorem Ut (N:Nat) {m:Nat} (l:Bs) {z:Int} (hz:z≠0):j6 N m l z=⟨[],l,z⟩:=by
 cases m with
 |zero=>rfl
 |succ k=>simp[j6,hz]
theorem Q4 (N k:Nat) {l:Bs} (hs:skip l≠ []):j6 N (k+1) l 0=(j6 N k (fn N (skip l) 0).l (fn N (skip l) 0).z).after [(fn N (skip l) 0).v]:=by
 rw[j6];have:(skip l).isEmpty=false:=by cases hk:skip l with
  |nil=>exact absurd hk hs
  |cons a b=>rfl
 simp only[if_true,this,Bool.false_eq_true,if_false];rfl
theorem MX {l:Bs} (h:l≠ []):¬((bS l).toNat:Int)=0:=by
 cases l with
 |nil=>exact absurd rfl h
 |cons c t=>
  intro e;have e1:(bS (c::t)).toNat=(0:UInt8).toNat:=by
   have:((0:UInt8).toNat:Int)=0:=rfl;omega
  exact EX (UInt8.toNat_inj.1 e1)
set_option maxHeartbeats 400000 in
theorem J6 (s:Bs) (N n:Nat) (w:World) (hs:1500<s.length) (hmax:s.length<=9223372036854775807):
 Calls Tryz.prog 24 #[.string (bs s)] w (Li w (jM N n s)):=by
 have e:jM N n s=([],4):=by simp[jM,hs]
 rw[e];have hsz:=dz s;have h1:(1500:Int)<((bs s).size:Int):=by rw[hsz];omega
 clear e
 go_enter Tryz.func24,Tryz.ntmps24
 go_wp2
 go_ret2
 exact Cf 4 (Fr.refl _ _)
theorem Yi (w0:World) (rb N:Nat) (hN:1502<=N) (l:Bs) (z:Int) (w:World) (h:Pw w0 rb l z w):Calls Tryz.prog 58 #[.pointer (some ⟨rb,0,none⟩),.int .i64 0] w (vF rb w (aB (stmt N 11) N l z)):=
 BZ w0 rb 0 (stmt N 11) N hN (Be N 11) (iF N 11) (by omega) (by omega) (fun l1 w1 h1=>Fp w0 rb N hN 11 0 l1 0 w1 (by omega) (by omega) h1) l z w h
set_option maxHeartbeats 1000000 in
set_option maxRecDepth 20000 in
theorem Fq (s:Bs) (N n:Nat) (w:World) (hE:Er w) (hT:rC w) (hs:s.length<=1500) (hN:1502<=N) (hn:1502<=n):
 Calls Tryz.prog 24 #[.string (bs s)] w (Li w (jM N n s)):=by
 have e:jM N n s=Q3 (j6 N n s 0):=by
  have:¬1500<s.length:=by omega
  simp[jM,this]
 rw[e];clear e;have hsz:=dz s;have h1:¬(1500:Int)<((bs s).size:Int):=by rw[hsz];omega
 have h1':¬(1500:Int)<(s.length:Int):=by omega
 have hw1:∃w1:World,w1=(w.alloc (.cells #[.string (bs s),.int .i64 0] 111)).alloc (.cells #[.pointer (some ⟨w.heap.size,0,none⟩)] 109):=⟨_,rfl⟩
 obtain⟨w1,hw1⟩:=hw1;have qy:Fr nothing w w1:=by rw[hw1];exact((Fr.refl _ w).alloc _).alloc _
 have hs1:w1.heap.size=w.heap.size+1+1:=by rw[hw1];simp
 have hP1:Pw w w.heap.size s 0 w1:=by
  have hn:=af (Fr.refl nothing (w.alloc (.cells #[.string (bs s),.int .i64 0] 111))) id;have hp:Pr w.heap.size s 0 (w.alloc (.cells #[.string (bs s),.int .i64 0] 111)):=⟨hn.1 0,hn.1 1,hn.2.1 0,hn.2.1 1,hn.2.2⟩;refine⟨?_,hs,qy.below (Nat.le_refl _) (fun k _ e=>e),Nat.le_refl _,hT,hE⟩
  rw[hw1];exact hp.fr ((Fr.refl nothing _).alloc _) id
 have hbp:w1.cell? ⟨w.heap.size+1,0,none⟩=some (.pointer (some ⟨w.heap.size,0,none⟩)):=by
  rw[hw1,show w.heap.size+1=(w.alloc (.cells #[.string (bs s),.int .i64 0] 111)).heap.size by simp,World.cell?_alloc_new];rfl
 have HW1:=hide hw1;have MF:=hide qy;have pY:=hide hP1;have HBP:=hide hbp;clear hw1 qy hP1 hE hT hbp;obtain⟨j0,hj0,hy0,hy1,hy2⟩:=info_parts Yh
 go_enter Tryz.func24,Tryz.ntmps24
 go_wp2
 go_loopw [5] (fun v wr=>∃(m:Nat) (ac:List Fn) (q:Bs) (zq:Int) (va:Option Addr) (vc:Nat),v=.slice va ac.length vc/\0<m/\Hid ((zq=0->q.length+1<m/\ac.length+q.length<=1500)/\Pw w w.heap.size q zq wr/\Fr (at_ w.heap.size) w1 wr/\Row 117 3 ug zO w1.heap.size (.slice va ac.length vc) ac wr/\j6 N n s 0=(j6 N m q zq).after ac)) (fun _ wr=>leftOf wr w.heap.size)
 case atStart=>
  refine⟨n,[],s,0,none,0,rfl,by omega,?_⟩
  rw[<-HW1.out];exact⟨fun _=>⟨by omega,by simpa using hs⟩,pY.out,Fr.refl _ _,Row.nil _ (Nat.le_refl _),(gq _).symm⟩
 case round=>
  obtain⟨m,ac,q,zq,va,vc,rfl,hm0,hR⟩:=hrel;obtain⟨hle,Uu,BP,hrow,MZ⟩:=hR.out;have Yj:wr.cell? ⟨w.heap.size+1,0,none⟩=some (.pointer (some ⟨w.heap.size,0,none⟩)):=(BP.cell (p:=⟨w.heap.size+1,0,none⟩) (by show w.heap.size+1<_;omega) (by show ¬w.heap.size+1=w.heap.size;omega)).trans HBP.out
  have aaz:=BP.size;have hbl:w.heap.size+1<wr.heap.size:=by omega
  have hc1:=Uu.pr.e;have hrl:=Uu.pr.lt;have EM:=hide BP
  by_cases hz:zq=0
  ·subst hz;obtain⟨hle1,hle2⟩:=hle rfl;have oO:=hide (eP w.heap.size q 0 wr Uu.pr Uu.len);cases hsk:skip q with
   |nil=>
    rw[hsk,show((bS []).toNat:Int)=0 from rfl] at oO;have hres:j6 N n s 0=⟨ac,[],0⟩:=by rw[MZ,Us N hm0 hsk];simp[Rd.after]
    have jw:=hide hres;have zx:=hide hrow;clear hR Uu BP hrow MZ hle hres
    go_wp2_with (go_at_call 53;refine oO.out.mono ?_;rintro e w2 ⟨rfl,hp,hf⟩;have Yk:=(hf.cell (p:=⟨w.heap.size+1,0,none⟩) hbl (by show ¬w.heap.size+1=w.heap.size;omega)).trans Yj;have Yl:w.heap.size+1<w2.heap.size:=(Nat.lt_of_lt_of_le hbl hf.size);have hc2:=hp.e;have hrl2:=hp.lt;have bq:=hide hf;clear hp hf)
    go_ret2
    rw[jw.out];obtain⟨rs,k1,k2,k3⟩:=(zx.out.fr mo bq.out (fun k e=>by have:k=w.heap.size:=e;omega)).done mo Oq (B:=0) (Nat.zero_le _)
    refine⟨⟨va,ac.length,vc⟩,rfl,(MF.out.then EM.out (fun j hj e=>by have:j=w.heap.size:=e;omega)).then bq.out (fun j hj e=>by have:j=w.heap.size:=e;omega),rfl,rs,k1,k3.1,fun i r x h1 h2=>mo _ _ nothing _ _ r x (k3.2 i r x h1 h2) (Fr.refl _ _) (fun _ _=>id) (fun _ hk=>hk.2)⟩
   |cons c0 t0=>
    have We:skip q≠ []:=by rw[hsk];simp
    obtain⟨m,rfl⟩:∃k,m=k+1:=⟨m-1,by omega⟩
    have NC:=hide (Q4 N m We);have n0:=MX We;have b0:=gF n0;have hkl:=aG q;clear hsk;obtain⟨a1,ha1⟩:∃a,must 40 (skip q) 0=a:=⟨_,rfl⟩
    obtain⟨t1,ht1⟩:∃a,name a1.l a1.z=a:=⟨_,rfl⟩
    obtain⟨a2,ha2⟩:∃a,must 40 t1.l t1.z=a:=⟨_,rfl⟩
    obtain⟨p1,hp1⟩:∃a,aB name N a2.l a2.z=a:=⟨_,rfl⟩
    obtain⟨s1,Uv⟩:∃a,aB (stmt N 11) N p1.l p1.z=a:=⟨_,rfl⟩
    have hfn:fn N (skip q) 0=⟨⟨t1.v,p1.v,s1.v⟩,s1.l,s1.z⟩:=by
     unfold fn;simp only[ha1,ht1,ha2,hp1,Uv]
    have MO:=Uu.len;have g1:a1.l.length<=(skip q).length:=ha1▸aJ 40 (skip q) 0;have g2:t1.l.length<=a1.l.length:=ht1▸fJ a1.l a1.z;have g3:a2.l.length<=t1.l.length:=ha2▸aJ 40 t1.l t1.z;have g4:p1.l.length<=a2.l.length:=hp1▸dR fJ N a2.l a2.z;have g5:s1.l.length<=p1.l.length:=Uv▸dR (iF N 11) N p1.l p1.z;have g6:s1.z=0->s1.l.length<(skip q).length:=fun h0=>by
     have:=SL N (skip q) (by rw[hfn];exact h0);rw[hfn] at this;exact this
    rw[hfn] at NC;have M1:Hid (∀w',Pr w.heap.size (skip q) 0 w'->Calls Tryz.prog 54 #[.pointer (some ⟨w.heap.size,0,none⟩),.int .u8 40] w' fun r w''=>r=.returned (.tuple #[])/\Pr w.heap.size a1.l a1.z w''/\Fr (at_ w.heap.size) w' w''):=fun w' hp=>ha1▸bR w.heap.size (skip q) 0 40 w' hp (by omega) (by decide)
    have NM:Hid (∀w',Pr w.heap.size a1.l a1.z w'->Calls Tryz.prog 55 #[.pointer (some ⟨w.heap.size,0,none⟩)] w' fun e w''=>e=.returned (.string (bs t1.v))/\Pr w.heap.size t1.l t1.z w''/\Fr (at_ w.heap.size) w' w''):=fun w' hp=>ht1▸pV w.heap.size a1.l a1.z w' hp (by omega)
    have M2:Hid (∀w',Pr w.heap.size t1.l t1.z w'->Calls Tryz.prog 54 #[.pointer (some ⟨w.heap.size,0,none⟩),.int .u8 40] w' fun r w''=>r=.returned (.tuple #[])/\Pr w.heap.size a2.l a2.z w''/\Fr (at_ w.heap.size) w' w''):=fun w' hp=>ha2▸bR w.heap.size t1.l t1.z 40 w' hp (by omega) (by decide)
    have UP:Hid (∀wm bf,Pw w w.heap.size a2.l a2.z wm->B3 bf (.string (bs t1.v)) (.slice none 0 0) (.slice none 0 0) wm->wm.cell? ⟨w.heap.size+1,0,none⟩=some (.pointer (some ⟨w.heap.size,0,none⟩))->w.heap.size+1<bf->Calls Tryz.prog 56 #[.pointer (some ⟨w.heap.size,0,none⟩),.func (.func 57) #[] #[.pointer (some ⟨bf,0,none⟩),.pointer (some ⟨w.heap.size+1,0,none⟩)]] wm
     fun e w'=>e=.returned (.tuple #[])/\JL w w.heap.size 9 1 jP CQ wm bf 1 p1.v p1.l p1.z w'):=fun wm bf hp hb hc hlt=>by
     have hJ0:JL w w.heap.size 9 1 jP CQ wm bf 1 [] a2.l a2.z wm:=
      {pw:=hp,fr:=Fr.refl _ _,fz:=fun _=>rfl,old:=fun _ _=>rfl,le:=fun _=>by have:=hp.len;simpa using this,row:=⟨aN,hb.c1,Row.nil _ (Nat.le_refl _)⟩}
     have:=Uh w.heap.size _ _ name (JL w w.heap.size 9 1 jP CQ wm bf 1) tX fJ (fun acc l z w h=>⟨h.pw.pr,h.pw.len⟩)
      (fun acc l l' z z' w' w'' h hp' hl hz hf=>h.move lN hb.lt hp.pr.lt (by omega) hp' hl hz hf)
      (fun acc l w' h=>clP w w.heap.size wm (w.heap.size+1) bf acc l w' hc hb.lt hp.pr.lt ⟨by omega,by omega,by omega⟩ ⟨by omega,hp.vE.size⟩ (hb.f 1) h)
      N [] a2.l a2.z wm hJ0 (by omega) (fun _=>by have:=hp.len;omega)
     rw[hp1] at this;exact this
    have SS:Hid (∀w',Pw w w.heap.size p1.l p1.z w'->Calls Tryz.prog 58 #[.pointer (some ⟨w.heap.size,0,none⟩),.int .i64 0] w' (vF w.heap.size w' s1)):=fun w' hp=>by
     have:=Yi w w.heap.size N hN p1.l p1.z w' hp;rw[Uv] at this;exact this
    have HPQ:=hide Uu;have zx:=hide hrow;have acy:=hide MZ;clear hR Uu BP hrow MZ hle ha1 ht1 ha2 hp1 Uv hfn
    go_wp2_with (first
     |(go_at_call 53;refine oO.out.mono ?_;rintro e w2 ⟨rfl,hp,hf⟩;have Yk:=(hf.cell (p:=⟨w.heap.size+1,0,none⟩) hbl (by show ¬w.heap.size+1=w.heap.size;omega)).trans Yj;have Yl:w.heap.size+1<w2.heap.size:=(Nat.lt_of_lt_of_le hbl hf.size);have rD:=hide hp;have bq:=hide hf;clear hp hf Yj)
     |(go_at_call 54;first
      |(refine(M2.out _ zK.out).mono ?_;rintro e w6 ⟨rfl,hp,hf⟩;have Ym:=(hf.cell (p:=⟨w.heap.size+1,0,none⟩) (by show w.heap.size+1<_;omega) (by show ¬w.heap.size+1=w.heap.size;omega)).trans aaN;have aaO:w.heap.size+1<w6.heap.size:=(Nat.lt_of_lt_of_le acz hf.size);have bg:=hide (aX.out.trans hf);have QX:=hide (HB5.out.fr hf (by show ¬w4.heap.size=w.heap.size;omega));have PW6:=hide (HPQ.out.of hp (by omega) bg.out);clear hp hf aaN)
      |(refine(M1.out _ rD.out).mono ?_;rintro e w3 ⟨rfl,hp,hf⟩;have aaP:=(hf.cell (p:=⟨w.heap.size+1,0,none⟩) Yl (by show ¬w.heap.size+1=w.heap.size;omega)).trans Yk;have aaQ:w.heap.size+1<w3.heap.size:=(Nat.lt_of_lt_of_le Yl hf.size);have dX:=hide (bq.out.trans hf);have Qv:=hide hp;clear hp hf Yk))
     |(go_at_call 55;refine(NM.out _ Qv.out).mono ?_;rintro e w4 ⟨rfl,hp,hf⟩;have aaR:w.heap.size+1<w4.heap.size:=(Nat.lt_of_lt_of_le aaQ hf.size);have hz4:wr.heap.size<=w4.heap.size:=((dX.out.trans hf).size);have acA:=(hf.cell (p:=⟨w.heap.size+1,0,none⟩) aaQ (by show ¬w.heap.size+1=w.heap.size;omega)).trans aaP;have aaN:(w4.alloc (.cells #[.string (bs t1.v),.slice none 0 0,.slice none 0 0] 117)).cell? ⟨w.heap.size+1,0,none⟩=some (.pointer (some ⟨w.heap.size,0,none⟩)):=(World.cell?_alloc_past _ _ _ aaR).trans acA;have acz:w.heap.size+1<(w4.alloc (.cells #[.string (bs t1.v),.slice none 0 0,.slice none 0 0] 117)).heap.size:=(by simp;omega);have HB5:=hide (B3.made w4 (.string (bs t1.v)) (.slice none 0 0) (.slice none 0 0) 117);have aX:=hide ((dX.out.trans hf).alloc (.cells #[.string (bs t1.v),.slice none 0 0,.slice none 0 0] 117));have zK:=hide (hp.fr ((Fr.refl nothing w4).alloc (.cells #[.string (bs t1.v),.slice none 0 0,.slice none 0 0] 117)) id);clear hp hf aaP)
     |(go_at_call 56;refine(UP.out _ w4.heap.size PW6.out QX.out Ym aaR).mono ?_;rintro e w7 ⟨rfl,hj⟩;have aaS:=(hj.fr.cell (p:=⟨w.heap.size+1,0,none⟩) aaO (by show ¬(w.heap.size+1=w.heap.size\/w.heap.size+1=w4.heap.size);omega)).trans Ym;have aaT:w.heap.size+1<w7.heap.size:=(Nat.lt_of_lt_of_le aaO hj.fr.size);obtain⟨sp,hsp,-⟩:=hj.row;have hB7:B3 w4.heap.size (.string (bs t1.v)) (.slice sp.a sp.n sp.c) (.slice none 0 0) w7:=⟨(hj.old 0 (by decide)).trans QX.out.c0,hsp,(hj.old 2 (by decide)).trans QX.out.c2,fun j=>(hj.fz j).trans (QX.out.f j),Nat.lt_of_lt_of_le QX.out.lt hj.fr.size⟩;have HJ7:=hide hj;have EL:=hide hB7;have VV:=hide hsp;clear hj hB7 Ym hsp)
     |(go_at_call 58;refine(SS.out _ HJ7.out.pw).mono ?_;rintro e w8 ⟨st,rfl,hf,hp,hn8,hls⟩;have Zj:=EL.out.fr hf (by show ¬w4.heap.size=w.heap.size;omega);have HB8:=hide Zj;obtain⟨x0,x1,x2,xf,xl⟩:=Zj;have xf2:=xf 2;have lK:=hide hf;have wE:=hide hp;have HL8:Hid (nI encS 5 gy w7.heap.size w8 st s1.v):=hls;have hbp8:=(hf.cell (p:=⟨w.heap.size+1,0,none⟩) aaT (by show ¬w.heap.size+1=w.heap.size;omega)).trans aaS;have hbl8:w.heap.size+1<w8.heap.size:=(Nat.lt_of_lt_of_le aaT hf.size);have F7:Fr (at_ w.heap.size) wr w7:=(bg.out.then HJ7.out.fr (fun j hj e=>by rcases e with e|e;exact e;omega));have FS:=hide ((F7.trans hf).setCell (p:=⟨w4.heap.size,2,none⟩) (.inr hz4) (.slice st.a st.n st.c));have FA:=hide (FS.out.alloc (.cells #[.string (bs t1.v),.slice sp.a sp.n sp.c,.slice st.a st.n st.c] 117));obtain⟨rs,hown,-,-⟩:=zx.out;have bL:=(aI hown FA.out (fun k hk e=>by have:=(hown.lt k hk).1;have:k=w.heap.size:=e;omega));have kN:=hide bL;have sQ:w1.heap.size<=((w8.setCell ⟨w4.heap.size,2,none⟩ (.slice st.a st.n st.c)).alloc (.cells #[.string (bs t1.v),.slice sp.a sp.n sp.c,.slice st.a st.n st.c] 117)).heap.size:=(Nat.le_trans aaz FA.out.size);have NW:Hid (∀j u,(ug ⟨t1.v,sp,st⟩)[j]?=some u->((w8.setCell ⟨w4.heap.size,2,none⟩ (.slice st.a st.n st.c)).alloc (.cells #[.string (bs t1.v),.slice sp.a sp.n sp.c,.slice st.a st.n st.c] 117)).cell? ((⟨w8.heap.size,0,none⟩:Addr).add j)=some u):=(by have:=World.news_of_block (cs:=#[.string (bs t1.v),.slice sp.a sp.n sp.c,.slice st.a st.n st.c]) (t:=117) (fr:=(0,0)) (bW (w8.setCell ⟨w4.heap.size,2,none⟩ (.slice st.a st.n st.c)) (.cells #[.string (bs t1.v),.slice sp.a sp.n sp.c,.slice st.a st.n st.c] 117));rw[show(w8.setCell ⟨w4.heap.size,2,none⟩ (.slice st.a st.n st.c)).heap.size=w8.heap.size by simp[World.setCell]] at this;exact this);have hac:ac.length<=1500:=(by omega);clear hf hp hls aaS xf hn8 hown bL F7)
     |(at_builtin;go_must (refine wpList_append_lies _ rfl _ _ 68 rfl w1.heap.size 117 j0 _ 3 64 Tryz.underlying68 hj0 hy0 hy1 hy2 rfl (by decide) (.slice va ac.length vc) ac.length _ rfl kN.out ⟨w8.heap.size,0,none⟩ 1 1 (ug ⟨t1.v,sp,st⟩) rfl rfl NW.out (by simp[ug,Value.oneCell']) (by decide) (by unfold maxLen;omega) (by omega) sQ _ rfl ?_);intro g cp w9 hr9 hg9 acB hlt9))
    have acC:zO ((w8.setCell ⟨w4.heap.size,2,none⟩ (.slice st.a st.n st.c)).alloc (.cells #[.string (bs t1.v),.slice sp.a sp.n sp.c,.slice st.a st.n st.c] 117)) (fun k=>wr.heap.size<=k/\k<((w8.setCell ⟨w4.heap.size,2,none⟩ (.slice st.a st.n st.c)).alloc (.cells #[.string (bs t1.v),.slice sp.a sp.n sp.c,.slice st.a st.n st.c] 117)).heap.size) ⟨t1.v,sp,st⟩ ⟨t1.v,p1.v,s1.v⟩:=by
     have h1:=aaM (nm:=t1.v) (B:=wr.heap.size) HJ7.out VV.out lK.out (by omega) (by have:=bg.out.size;omega) QX.out.lt HL8.out ((Fr.refl (fun k=>k=w4.heap.size) w8).setCell (p:=⟨w4.heap.size,2,none⟩) (.inl rfl) (.slice st.a st.n st.c));exact mo _ _ nothing _ _ _ _ h1 ((Fr.refl nothing _).alloc _) (fun _ _=>id) (fun k hk=>⟨hk.1,by have:=hk.2;simp[World.setCell] at this⊢;omega⟩)
    have hPA:Pr w.heap.size s1.l s1.z ((w8.setCell ⟨w4.heap.size,2,none⟩ (.slice st.a st.n st.c)).alloc (.cells #[.string (bs t1.v),.slice sp.a sp.n sp.c,.slice st.a st.n st.c] 117)):=(wE.out.fr ((Fr.refl (fun k=>k=w4.heap.size) w8).setCell (p:=⟨w4.heap.size,2,none⟩) (.inl rfl) (.slice st.a st.n st.c)) (by show ¬w.heap.size=w4.heap.size;omega)).fr ((Fr.refl nothing _).alloc _) id;have gT:Fr (fun k=>(Value.slice va ac.length vc).ownBlock=some k) ((w8.setCell ⟨w4.heap.size,2,none⟩ (.slice st.a st.n st.c)).alloc (.cells #[.string (bs t1.v),.slice sp.a sp.n sp.c,.slice st.a st.n st.c] 117)) w9:=(Fr.refl _ _).grown hg9 (fun k hk=> .inl hk);have Wh:∀k,(Value.slice va ac.length vc).ownBlock=some k->w1.heap.size<=k:=fun k hk=>(kN.out.lt k hk).1
    have hP9:Pr w.heap.size s1.l s1.z w9:=hPA.fr gT (fun e=>by have:=Wh _ e;omega);have aaU:Fr (at_ w.heap.size) w1 w9:=(EM.out.trans FA.out).then gT (fun j hj e=>by have:=Wh _ e;omega)
    have aaV:Row 117 3 ug zO w1.heap.size (.slice (some ⟨g,0,none⟩) (ac.length+1) cp) (ac++ [⟨t1.v,p1.v,s1.v⟩]) w9:=
     zx.out.push mo FA.out (fun k e=>by have:k=w.heap.size:=e;omega) (Nat.le_refl _) acC gT (fun k e=> .inr e) (fun rs2 hrs=>by
      have h2:((w8.setCell ⟨w4.heap.size,2,none⟩ (.slice st.a st.n st.c)).alloc (.cells #[.string (bs t1.v),.slice sp.a sp.n sp.c,.slice st.a st.n st.c] 117)).ownsRow w1.heap.size 117 3 (.slice va ac.length vc) ac.length (rs2.flatMap ug):=aI hrs FA.out (fun k hk e=>by have:=(hrs.lt k hk).1;have:k=w.heap.size:=e;omega);rw[uj h2 kN.out];exact hr9) (by
      rcases acB with e|e
      ·exact .inl e.symm
      ·exact .inr ⟨g,rfl,by omega⟩)
    have acD:Pw w w.heap.size s1.l s1.z w9:=⟨hP9,by omega,(MF.out.then aaU (fun j hj e=>by have:j=w.heap.size:=e;omega)).below (Nat.le_refl _) (fun k _ e=>e),Nat.le_refl _,HPQ.out.tab,HPQ.out.er⟩;refine⟨⟨m,ac++ [⟨t1.v,p1.v,s1.v⟩],s1.l,s1.z,some ⟨g,0,none⟩,cp,by simp,by omega,fun h0=>?_,acD,aaU,by simpa using aaV,?_⟩,?_⟩
    ·have:=g6 h0;simp
     omega
    ·rw[acy.out,NC.out,dS]
    ·rw[HPQ.out.pr.lg]
     by_cases h0:s1.z=0
     ·have:=g6 h0;rw[h0] at hP9;rw[hP9.lg];omega
     ·rw[hP9.vZ h0];omega
  ·have hres:j6 N n s 0=⟨ac,q,zq⟩:=by rw[MZ,Ut N q hz];simp[Rd.after]
   have jw:=hide hres;have hz1:(zq==0)=false:=by simpa using hz
   have hz2:=gF hz;clear hR Uu BP hrow MZ hle hres
   go_wp2_with fail
   go_region
   all_goals go_wp2
   all_goals go_ret2
   all_goals rw[jw.out,show Q3 ⟨ac,q,zq⟩=([],zq) by simp[Q3,hz]]
   all_goals exact Cf zq (MF.out.then EM.out (fun j hj e=>by have:j=w.heap.size:=e;omega)).drew
end
section
theorem tC {w:World} {s:ai} {rs:List rR} (h:Sl fQ 4 w s.v rs) {i:Nat} {r:rR} (hi:rs[i]?=some r):∃b off,s.a=some ⟨b,off,none⟩/\s.n=rs.length/\b<w.heap.size/\w.cell? ⟨b,off+i*4,none⟩=some (.int .i64 r.k)/\w.cell? ⟨b,off+i*4+1,none⟩=some (.int .i64 r.n)/\w.cell? ⟨b,off+i*4+2,none⟩=some (.string (bs r.t))/\w.cell? ⟨b,off+i*4+3,none⟩=some (.slice r.s.a r.s.n r.s.c):=by
 obtain⟨ao,cap,he,_,hc⟩:=h;obtain⟨b,off,rfl,hb,hcell⟩:=hc i r hi;simp only[Value.slice.injEq] at he;obtain⟨h1,h2,_⟩:=he;exact⟨b,off,h1,h2,hb,hcell 0 _ rfl,hcell 1 _ rfl,hcell 2 _ rfl,hcell 3 _ rfl⟩
theorem Fs {w:World} {s:ai} {rs:List rU} (h:Sl encS 5 w s.v rs) {i:Nat} {r:rU} (hi:rs[i]?=some r):∃b off,s.a=some ⟨b,off,none⟩/\b<w.heap.size/\w.cell? ⟨b,off+i*5,none⟩=some (.int .i64 r.k)/\w.cell? ⟨b,off+i*5+1,none⟩=some (.string (bs r.t))/\w.cell? ⟨b,off+i*5+2,none⟩=some (.slice r.a.a r.a.n r.a.c)/\w.cell? ⟨b,off+i*5+3,none⟩=some (.slice r.x.a r.x.n r.x.c)/\w.cell? ⟨b,off+i*5+4,none⟩=some (.slice r.y.a r.y.n r.y.c):=by
 obtain⟨ao,cap,he,_,hc⟩:=h;obtain⟨b,off,rfl,hb,hcell⟩:=hc i r hi;simp only[Value.slice.injEq] at he;exact⟨b,off,he.1,hb,hcell 0 _ rfl,hcell 1 _ rfl,hcell 2 _ rfl,hcell 3 _ rfl,hcell 4 _ rfl⟩
theorem Fu {w:World} {s:ai} {rs:List qH} (h:Sl ug 3 w s.v rs) {i:Nat} {r:qH} (hi:rs[i]?=some r):∃b off,s.a=some ⟨b,off,none⟩/\b<w.heap.size/\w.cell? ⟨b,off+i*3,none⟩=some (.string (bs r.t))/\w.cell? ⟨b,off+i*3+1,none⟩=some (.slice r.p.a r.p.n r.p.c)/\w.cell? ⟨b,off+i*3+2,none⟩=some (.slice r.b.a r.b.n r.b.c):=by
 obtain⟨ao,cap,he,_,hc⟩:=h;obtain⟨b,off,rfl,hb,hcell⟩:=hc i r hi;simp only[Value.slice.injEq] at he;exact⟨b,off,he.1,hb,hcell 0 _ rfl,hcell 1 _ rfl,hcell 2 _ rfl⟩
abbrev eo (a:rR):Obj:=.cells #[.int .i64 a.k,.int .i64 a.n,.string (bs a.t),.slice a.s.a a.s.n a.s.c] 139
abbrev so (a:rU):Obj:=.cells #[.int .i64 a.k,.string (bs a.t),.slice a.a.a a.a.n a.a.c,.slice a.x.a a.x.n a.x.c,.slice a.y.a a.y.n a.y.c] 136
theorem Q5 {w w':World} {r:rU} {S:Nat->Prop} (hf:Fr S (w.alloc (so r)) w') (hs:¬S w.heap.size):B5 w.heap.size (.int .i64 r.k) (.string (bs r.t)) (.slice r.a.a r.a.n r.a.c) (.slice r.x.a r.x.n r.x.c) (.slice r.y.a r.y.n r.y.c) w':=(B5.made w _ _ _ _ _ 136).fr hf hs
theorem tF {l:List Ex} {j:Nat} (h:j<=l.length):j+iJ (l.drop j)<=iJ l:=by
 induction l generalizing j with
 |nil=>simp at h;subst h;simp[iJ]
 |cons x l ih=>
  cases j with
  |zero=>simp
  |succ j=>
   have:=ih (j:=j) (by simpa using h);have:=KG x;rw[List.drop_succ_cons,iJ];omega
end
end Go.Proofs.YtbcadjgpcfmkfaaGreatDoor
