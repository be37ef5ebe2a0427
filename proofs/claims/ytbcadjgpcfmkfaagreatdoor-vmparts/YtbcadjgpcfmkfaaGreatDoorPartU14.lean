/- MAsk; MPart; MPut. -/
import Derived.Test.YtbcadjgpcfmkfaaGreatDoorPartU13
import Derived.Test.YtbcadjgpcfmkfaaGreatDoorPartU1
set_option maxHeartbeats 0
set_option maxRecDepth 100000
set_option linter.unusedSimpArgs false
namespace Go.Proofs.YtbcadjgpcfmkfaaGreatDoor
open Go Go.RowKit
section
def kF (y:Bs×Val):List Value:=[.string (bs y.1),.int .i64 y.2.k,.int .i64 y.2.n,.string (bs y.2.t)]
theorem BB {w:World} {s:ai} {rs:List (Bs×Val)} (h:Sl kF 4 w s.v rs) {i:Nat} {r:Bs×Val} (hi:rs[i]?=some r):∃b off,s.a=some ⟨b,off,none⟩/\b<w.heap.size/\w.cell? ⟨b,off+i*4,none⟩=some (.string (bs r.1))/\w.cell? ⟨b,off+i*4+1,none⟩=some (.int .i64 r.2.k)/\w.cell? ⟨b,off+i*4+2,none⟩=some (.int .i64 r.2.n)/\w.cell? ⟨b,off+i*4+3,none⟩=some (.string (bs r.2.t)):=by
 obtain⟨ao,cap,he,_,hc⟩:=h;obtain⟨b,off,rfl,hb,hcell⟩:=hc i r hi;simp only[Value.slice.injEq] at he;exact⟨b,off,he.1,hb,hcell 0 _ rfl,hcell 1 _ rfl,hcell 2 _ rfl,hcell 3 _ rfl⟩
theorem OL {fs:List (Bs×Val)} {j:Nat} {y:Bs×Val} {k:Bs} (h:fs[j]?=some y) (hk:y.1=k):jk (fs.drop j) k=y.2:=by
 obtain⟨hj,rfl⟩:=List.getElem?_eq_some_iff.1 h;unfold jk;rw[List.drop_eq_getElem_cons hj,List.find?_cons_of_pos (by simpa using hk)];rfl
theorem Ml {fs:List (Bs×Val)} {j:Nat} {y:Bs×Val} {k:Bs} (h:fs[j]?=some y) (hk:¬y.1=k):jk (fs.drop j) k=jk (fs.drop (j+1)) k:=by
 obtain⟨hj,rfl⟩:=List.getElem?_eq_some_iff.1 h;unfold jk;rw[List.drop_eq_getElem_cons hj,List.find?_cons_of_neg (by simpa using hk)]
theorem OM {fs:List (Bs×Val)} {j:Nat} {k:Bs} (h:fs.length<=j):jk (fs.drop j) k=v0:=by
 unfold jk;rw[List.drop_eq_nil_of_le h];rfl
section
variable {base mb : Nat} {x : Fx} {qf qh : ai} {rp : List aQ} {r : aQ} {m : Mc} {w : World}
theorem OO (h:Mt base mb x qf qh rp r m w) (hl:rp.length<=1000) {st:List Val} {v:Val} (hst:m.f.stack=st++ [v]) (hs:st.length<=1000) {fs:List (Bs×Val)} (hfs:∀w',Fr (fun k=>Ob qf qh rp r k\/k=mb) w w'->Sl kF 4 w' x.cu.v fs):
 Calls Tryz.prog 45 #[.pointer (some ⟨mb,0,none⟩)] w (MR base mb x (Ob qf qh rp r) w (if v.k≠1 then stk m st else stk m (st++ [jk fs v.t])) (if v.k≠1 then bQ 11 else dB)):=by
 have FA:Fr nothing w (w.alloc (.cells #[.int .i64 0,.string ⟨#[]⟩,.int .i64 0] 39)):=(Fr.refl _ _).alloc _;have mA:=af (Fr.refl nothing (w.alloc (.cells #[.int .i64 0,.string ⟨#[]⟩,.int .i64 0] 39))) id;have dF:∀k,Ob qf qh rp r k->k<w.heap.size:=fun k hk=>(h.ob hk).2
 have hnb:¬(Ob qf qh rp r w.heap.size\/w.heap.size=mb):=fun e=>by
  rcases e with e|e
  ·have:=dF _ e;omega
  ·have:=h.mw;omega
 obtain⟨wA,iU⟩:∃y,y=w.alloc (.cells #[.int .i64 0,.string ⟨#[]⟩,.int .i64 0] 39):=⟨_,rfl⟩
 rw[<-iU] at FA mA;have bV:Hid (∀w',Fr (fun k=>Ob qf qh rp r k\/k=mb) wA w'->w'.cell? ⟨w.heap.size,0,none⟩=some (.int .i64 0)/\w'.cell? ⟨w.heap.size,1,none⟩=some (.string ⟨#[]⟩)/\w'.cell? ⟨w.heap.size,2,none⟩=some (.int .i64 0)/\(w'.frozen? ⟨w.heap.size,0,none⟩=false/\w'.frozen? ⟨w.heap.size,1,none⟩=false/\w'.frozen? ⟨w.heap.size,2,none⟩=false)/\w.heap.size<w'.heap.size):=fun w' hf=>by
  have hc:∀j,w'.cell? ⟨w.heap.size,j,none⟩=_:=fun j=>(hf.cell (p:=⟨w.heap.size,j,none⟩) mA.2.2 hnb).trans (mA.1 j)
  have hz:∀j,w'.frozen? ⟨w.heap.size,j,none⟩=_:=fun j=>(hf.frozen (p:=⟨w.heap.size,j,none⟩) mA.2.2 hnb).trans (mA.2.1 j)
  exact⟨hc 0,hc 1,hc 2,⟨hz 0,hz 1,hz 2⟩,Nat.lt_of_lt_of_le mA.2.2 hf.size⟩
 have H0:=hide (h.new FA);have dL:=hide FA;have zA:wA.heap.size=w.heap.size+1:=by rw[iU];simp
 have pY:=hide (dM H0.out hl hst (by omega));have pQ:=iU.symm;have HH:=hide h;have BC:Hid (∀w',Fr (fun k=>Ob qf qh rp r k\/k=mb) wA w'->Sl kF 4 w' x.cu.v fs):=fun w' hf=>hfs w' ((FA.mono (fun _ _ e=>e.elim)).trans hf)
 obtain⟨Z0,mfs⟩:=ay (hfs w (Fr.refl _ _));clear h FA mA iU hfs
 by_cases hk:v.k=1
 case neg=>
  rw[if_pos hk,if_pos hk];have hkb:(v.k !=1)=true:=by simpa using hk
  go_enter Tryz.func45,Tryz.ntmps45
  go_wp2_with (first
   |(go_at_call 17;refine(jK 11 _).mono ?_;rintro e w6 ⟨rfl,aR⟩;have bg:=hide ((dX.out.alloc (.cells #[.int .i64 v.k,.int .i64 v.n,.string (bs v.t)] 53)).trans (aR.mono (fun _ _ e=>e.elim)));have gI:=hide ((mF.out.new ((Fr.refl _ _).alloc (.cells #[.int .i64 v.k,.int .i64 v.n,.string (bs v.t)] 53))).new aR);obtain⟨n0,n1,n2,⟨z0,z1,z2⟩,nl⟩:=bV.out w6 bg.out;clear aR)
   |(go_at_call 40;refine pY.out.mono ?_;rintro e w3 ⟨rfl,hM2,eG,hf3⟩;have mF:=hide hM2;have fM:=hide eG;have dX:Hid (Fr (fun k=>Ob qf qh rp r k\/k=mb) wA w3):=hf3.mono (fun k _ e=> .inl e);obtain⟨p0,p1,p2,⟨y0,y1,y2⟩,pl⟩:=bV.out w3 dX.out;have c8:=hM2.c8;have c5:=hM2.c5;have cz:=hM2.z 8;have cm:=hM2.mw;clear hM2 eG hf3))
  refine bodyPost_ret (v:=je (bQ 11)) (by simp[results,Tryz.results45,go_sem,n0,n1,n2]) rfl ?_
  exact MR.fin HH.out.bl HH.out.ml dL.out bg.out gI.out (fun k hk=> .inl (fM.out k hk)) dF _ _ _
 have hkb:(v.k !=1)=false:=by simpa using hk
 have hk':¬v.k≠1:=fun e=>e hk;rw[if_neg hk',if_neg hk'];obtain⟨vk,vn,vt⟩:=v;simp only at hk;subst hk;obtain⟨xsc,xsw,xnm,⟨fa,fn,fc⟩,xsfu,xsce⟩:=x;simp only at Z0;subst Z0
 go_enter Tryz.func45,Tryz.ntmps45
 go_wp2_with (first
  |(go_at_call 40;refine pY.out.mono ?_;rintro e w3 ⟨rfl,hM2,eG,hf3⟩;have mF:=hide hM2;have fM:=hide eG;have dX:Hid (Fr (fun k=>Ob qf qh rp r k\/k=mb) wA w3):=hf3.mono (fun k _ e=> .inl e);obtain⟨p0,p1,p2,⟨y0,y1,y2⟩,pl⟩:=bV.out w3 dX.out;have c8:=hM2.c8;have c5:=hM2.c5;have c10:=hM2.c10;have cz:=hM2.z 8;have cm:=hM2.mw;clear hM2 eG hf3))
 have OP:Fr nothing w3 (w3.alloc (.cells #[.int .i64 1,.int .i64 vn,.string (bs vt)] 53)):=(Fr.refl _ _).alloc _;have mV:=af (Fr.refl nothing (w3.alloc (.cells #[.int .i64 1,.int .i64 vn,.string (bs vt)] 53))) id;have lJ:=hide (mF.out.new OP);have gX:Hid (Fr (fun k=>Ob qf qh rp r k\/k=mb) wA (w3.alloc (.cells #[.int .i64 1,.int .i64 vn,.string (bs vt)] 53))):=dX.out.alloc _;obtain⟨vb,hvb⟩:∃y,y=w3.heap.size:=⟨_,rfl⟩
 rw[<-hvb] at mV;rw[<-hvb];generalize w3.alloc (.cells #[.int .i64 1,.int .i64 vn,.string (bs vt)] 53)=w4 at*;have KQ:=hide mV;clear mV OP c8 c5 c10 cz cm p0 p1 p2 y0 y1 y2 pl hvb
 go_loopw [18,5] (fun i _ wv=>∃(j:Nat),j<=fs.length/\i=.int .i64 j/\Hid (Fr nothing w4 wv/\jk (fs.drop j) vt=jk fs vt)) (fun i _ _=>fs.length-(intOf i).toNat)
 case atStart=>exact⟨0,Nat.zero_le _,rfl,Fr.refl _ _,rfl⟩
 case round=>
  obtain⟨j,hj,rfl,hRj⟩:=hrel;obtain⟨hfj,BD⟩:=hRj.out;have HMJ:=hide (lJ.out.new hfj);have Gh:Hid (Fr (fun k=>Ob qf qh rp r k\/k=mb) wA wr):=gX.out.trans (hfj.mono (fun _ _ e=>e.elim));have cm:=HMJ.out.mw
  by_cases hjl:j<fs.length
  ·have hx:fs[j]?=some fs[j]:=List.getElem?_eq_getElem hjl;generalize fs[j]=y at hx;obtain⟨g,o,e1,dg,u0,u1,u2,u3⟩:=BB (s:=⟨fa,fs.length,fc⟩) (BC.out wr Gh.out) hx;simp only at e1;subst e1;obtain⟨yk,yv⟩:=y;simp only at u0 u1 u2 u3;have v2:=(hfj.cell (p:=⟨vb,2,none⟩) KQ.out.2.2 id).trans (KQ.out.1 2);have vl:=Nat.lt_of_lt_of_le KQ.out.2.2 hfj.size;have ni:Hid (Fr nothing w4 (wr.alloc (.cells #[.string (bs yk),.int .i64 yv.k,.int .i64 yv.n,.string (bs yv.t)] 55))):=hfj.alloc _
   by_cases hy:yk=vt
   ·have hf:=OL hx hy;rw[BD] at hf;rw[hf];clear hRj hfj BD hx hf;subst hy;have hyb:=CB yk
    go_wp2_with (first
     |(go_at_call 27;refine(fC (HMJ.out.new ((Fr.refl _ _).alloc (.cells #[.string (bs yk),.int .i64 yv.k,.int .i64 yv.n,.string (bs yv.t)] 55))) hl (by show st.length<=100000;omega) yv).mono ?_;rintro e w6 ⟨rfl,⟨q',fD,iW⟩,aR⟩;have bg:=hide ((Gh.out.alloc (.cells #[.string (bs yk),.int .i64 yv.k,.int .i64 yv.n,.string (bs yv.t)] 55)).trans (aR.mono (fun k _ e=> .inl (fM.out k e))));have gI:=hide fD;have xS:=hide iW;have oJ:=Gh.out.size;obtain⟨n0,n1,n2,⟨z0,z1,z2⟩,nl⟩:=bV.out w6 bg.out;clear aR fD iW))
    refine bodyPost_ret (v:=je dB) (by simp[results,Tryz.results45,go_sem,n0,n1,n2,bs]) rfl ?_
    have hzf:(wr.alloc (.cells #[.string (bs yk),.int .i64 yv.k,.int .i64 yv.n,.string (bs yv.t)] 55)).heap.size=wr.heap.size+1:=by simp
    exact MR.fin (ev:=dB) HH.out.bl HH.out.ml dL.out bg.out gI.out (fun k hk=>(xS.out k hk).imp (fM.out k) (fun e=>by omega)) dF _ _ _
   ·have hyb:((bs yk).toList==(bs vt).toList)=false:=uW hy;have HE:Hid (jk (fs.drop (j+1)) vt=jk fs vt):=by
     have:=Ml hx hy;rw[BD] at this;exact this.symm
    clear hRj hfj BD hx
    go_wp2_with fail
    go_roundw
    case rel=>exact⟨j+1,by omega,by go_num,ni.out,HE.out⟩
    case measure=>simp[intOf];omega
  ·have hf:jk fs vt=v0:=by rw[<-BD];exact OM (by omega)
   have HFE:=hide hf;have nG:=hide (fun w=>ng 0 w);have hi0:(⟨0,0,[]⟩:Val)=v0:=rfl;rw[hi0] at nG;clear hRj hfj BD hf
   go_wp2_with (first
    |(go_at_call 27;refine(fC iV.out hl (by show st.length<=100000;omega) v0).mono ?_;rintro e w6 ⟨rfl,⟨q',fD,iW⟩,aR⟩;have bg:=hide (aX.out.trans (aR.mono (fun k _ e=> .inl (fM.out k e))));have gI:=hide fD;have xS:=hide iW;have oJ:=aX.out.size;obtain⟨n0,n1,n2,⟨z0,z1,z2⟩,nl⟩:=bV.out w6 bg.out;clear aR fD iW)
    |(go_at_call 28;refine(nG.out _).mono ?_;rintro e w5 ⟨rfl,cK⟩;have aX:=hide (Gh.out.trans (cK.mono (fun _ _ e=>e.elim)));have iV:=hide (HMJ.out.new cK);clear cK))
   refine bodyPost_ret (v:=je dB) (by simp[results,Tryz.results45,go_sem,n0,n1,n2,bs]) rfl ?_
   rw[HFE.out];exact MR.fin (ev:=dB) HH.out.bl HH.out.ml dL.out bg.out gI.out (fun k hk=>(xS.out k hk).imp (fM.out k) (fun e=>by omega)) dF _ _ _
end
end
section
theorem abS {w:World} {b:Nat} {u0 u1 u2 u3 u4 u5:Value} (x0 x1 x2 x3 x4 x5:Value) (h0:w.cell? ⟨b,0,none⟩=some u0) (h1:w.cell? ⟨b,1,none⟩=some u1) (h2:w.cell? ⟨b,2,none⟩=some u2) (h3:w.cell? ⟨b,3,none⟩=some u3) (h4:w.cell? ⟨b,4,none⟩=some u4) (h5:w.cell? ⟨b,5,none⟩=some u5):
 ∃w5,(((((w.setCell ⟨b,0,none⟩ x0).setCell ⟨b,1,none⟩ x1).setCell ⟨b,2,none⟩ x2).setCell ⟨b,3,none⟩ x3).setCell ⟨b,4,none⟩ x4).setCell ⟨b,5,none⟩ x5=w5/\(w5.cell? ⟨b,0,none⟩=some x0/\w5.cell? ⟨b,1,none⟩=some x1/\w5.cell? ⟨b,2,none⟩=some x2/\w5.cell? ⟨b,3,none⟩=some x3/\w5.cell? ⟨b,4,none⟩=some x4/\w5.cell? ⟨b,5,none⟩=some x5)/\Fr (fun k=>k=b) w w5:=by
 refine⟨_,rfl,⟨?_,?_,?_,?_,?_,?_⟩,((((((Fr.refl (fun k=>k=b) w).setCell (p:=⟨b,0,none⟩) (.inl rfl) _).setCell (p:=⟨b,1,none⟩) (.inl rfl) _).setCell (p:=⟨b,2,none⟩) (.inl rfl) _).setCell (p:=⟨b,3,none⟩) (.inl rfl) _).setCell (p:=⟨b,4,none⟩) (.inl rfl) _).setCell (p:=⟨b,5,none⟩) (.inl rfl) _⟩
 all_goals simp[go_sem,h0,h1,h2,h3,h4,h5]
section
variable {base mb : Nat} {x : Fx} {qf qh : ai} {rp : List aQ} {r : aQ} {m : Mc} {w : World}
theorem BF (h:Mt base mb x qf qh rp r m w) (hl:rp.length<=1000) {st:List Val} {v:Val} (op:Int) (hst:m.f.stack=st++ [v]) (hs:st.length<=1000) (hv:v.k=2->0<=v.n/\v.n<m.hp.length):
 Calls Tryz.prog 43 #[.pointer (some ⟨mb,0,none⟩),.int .i64 op] w (MR base mb x (Ob qf qh rp r) w (if v.k≠2 then stk m st else stk m (st++ [if op=7 then(m.hp.getD v.n.toNat c0).l else(m.hp.getD v.n.toNat c0).r])) (if v.k≠2 then bQ 11 else dB)):=by
 have FA:Fr nothing w (w.alloc (.cells #[.int .i64 0,.string ⟨#[]⟩,.int .i64 0] 39)):=(Fr.refl _ _).alloc _;have mA:=af (Fr.refl nothing (w.alloc (.cells #[.int .i64 0,.string ⟨#[]⟩,.int .i64 0] 39))) id;have dF:∀k,Ob qf qh rp r k->k<w.heap.size:=fun k hk=>(h.ob hk).2
 have hnb:¬(Ob qf qh rp r w.heap.size\/w.heap.size=mb):=fun e=>by
  rcases e with e|e
  ·have:=dF _ e;omega
  ·have:=h.mw;omega
 obtain⟨wA,iU⟩:∃y,y=w.alloc (.cells #[.int .i64 0,.string ⟨#[]⟩,.int .i64 0] 39):=⟨_,rfl⟩
 rw[<-iU] at FA mA;have bV:Hid (∀w',Fr (fun k=>Ob qf qh rp r k\/k=mb) wA w'->w'.cell? ⟨w.heap.size,0,none⟩=some (.int .i64 0)/\w'.cell? ⟨w.heap.size,1,none⟩=some (.string ⟨#[]⟩)/\w'.cell? ⟨w.heap.size,2,none⟩=some (.int .i64 0)/\(w'.frozen? ⟨w.heap.size,0,none⟩=false/\w'.frozen? ⟨w.heap.size,1,none⟩=false/\w'.frozen? ⟨w.heap.size,2,none⟩=false)/\w.heap.size<w'.heap.size):=fun w' hf=>by
  have hc:∀j,w'.cell? ⟨w.heap.size,j,none⟩=_:=fun j=>(hf.cell (p:=⟨w.heap.size,j,none⟩) mA.2.2 hnb).trans (mA.1 j)
  have hz:∀j,w'.frozen? ⟨w.heap.size,j,none⟩=_:=fun j=>(hf.frozen (p:=⟨w.heap.size,j,none⟩) mA.2.2 hnb).trans (mA.2.1 j)
  exact⟨hc 0,hc 1,hc 2,⟨hz 0,hz 1,hz 2⟩,Nat.lt_of_lt_of_le mA.2.2 hf.size⟩
 have H0:=hide (h.new FA);have dL:=hide FA;have zA:wA.heap.size=w.heap.size+1:=by rw[iU];simp
 have pY:=hide (dM H0.out hl hst (by omega));have pQ:=iU.symm;have HH:=hide h;have Ey:=h.hp.n;clear h FA mA iU
 by_cases hk:v.k=2
 case neg=>
  rw[if_pos hk,if_pos hk];have hkb:(v.k !=2)=true:=by simpa using hk
  go_enter Tryz.func43,Tryz.ntmps43
  go_wp2_with (first
   |(go_at_call 17;refine(jK 11 _).mono ?_;rintro e w6 ⟨rfl,aR⟩;have bg:=hide ((dX.out.alloc (.cells #[.int .i64 v.k,.int .i64 v.n,.string (bs v.t)] 53)).trans (aR.mono (fun _ _ e=>e.elim)));have gI:=hide ((mF.out.new ((Fr.refl _ _).alloc (.cells #[.int .i64 v.k,.int .i64 v.n,.string (bs v.t)] 53))).new aR);obtain⟨n0,n1,n2,⟨z0,z1,z2⟩,nl⟩:=bV.out w6 bg.out;clear aR)
   |(go_at_call 40;refine pY.out.mono ?_;rintro e w3 ⟨rfl,hM2,eG,hf3⟩;have mF:=hide hM2;have fM:=hide eG;have dX:Hid (Fr (fun k=>Ob qf qh rp r k\/k=mb) wA w3):=hf3.mono (fun k _ e=> .inl e);obtain⟨p0,p1,p2,⟨y0,y1,y2⟩,pl⟩:=bV.out w3 dX.out;have c8:=hM2.c8;have c5:=hM2.c5;have cz:=hM2.z 8;have cm:=hM2.mw;clear hM2 eG hf3))
  refine bodyPost_ret (v:=je (bQ 11)) (by simp[results,Tryz.results43,go_sem,n0,n1,n2]) rfl ?_
  exact MR.fin HH.out.bl HH.out.ml dL.out bg.out gI.out (fun k hk=> .inl (fM.out k hk)) dF _ _ _
 have hkb:(v.k !=2)=false:=by simpa using hk
 have hk':¬v.k≠2:=fun e=>e hk;rw[if_neg hk',if_neg hk'];obtain⟨vk,vn,vt⟩:=v;simp only at hk hv;subst hk;obtain⟨VA,v1'⟩:=hv rfl;obtain⟨n,rfl⟩:∃n:Nat,vn=n:=⟨vn.toNat,by omega⟩
 have hn:n<m.hp.length:=by omega
 have hy:m.hp[n]?=some m.hp[n]:=List.getElem?_eq_getElem hn;have hgd:m.hp.getD n c0=m.hp[n]:=by simp[List.getD_eq_getElem?_getD,hy]
 simp only[Int.toNat_natCast];rw[hgd];generalize m.hp[n]=y at hy;obtain⟨rv,Sc⟩:∃rv,(if op=7 then y.l else y.r)=rv:=⟨_,rfl⟩
 rw[Sc];have Vt:=hide Sc;clear Sc;obtain⟨g,o,hga,-⟩:=oq (HH.out.hp.sl bY) hy
 go_enter Tryz.func43,Tryz.ntmps43
 go_wp2_with (first
  |(go_at_call 40;refine pY.out.mono ?_;rintro e w3 ⟨rfl,hM2,eG,hf3⟩;have mF:=hide hM2;have fM:=hide eG;have dX:Hid (Fr (fun k=>Ob qf qh rp r k\/k=mb) wA w3):=hf3.mono (fun k _ e=> .inl e);obtain⟨p0,p1,p2,⟨y0,y1,y2⟩,pl⟩:=bV.out w3 dX.out;have c8:=hM2.c8;have c5:=hM2.c5;have cz:=hM2.z 8;have cm:=hM2.mw;clear hM2 eG hf3))
 have OP:Fr nothing w3 (w3.alloc (.cells #[.int .i64 2,.int .i64 (n:Int),.string (bs vt)] 53)):=(Fr.refl _ _).alloc _;have mV:=af (Fr.refl nothing (w3.alloc (.cells #[.int .i64 2,.int .i64 (n:Int),.string (bs vt)] 53))) id;have lJ:=hide (mF.out.new OP);have gX:Hid (Fr (fun k=>Ob qf qh rp r k\/k=mb) wA (w3.alloc (.cells #[.int .i64 2,.int .i64 (n:Int),.string (bs vt)] 53))):=dX.out.alloc _;obtain⟨vb,hvb⟩:∃z,z=w3.heap.size:=⟨_,rfl⟩
 rw[<-hvb] at mV;rw[<-hvb];generalize w3.alloc (.cells #[.int .i64 2,.int .i64 (n:Int),.string (bs vt)] 53)=w4 at*;have KQ:=hide mV;have Xa:=lJ.out.c5;rw[hga,Ey] at Xa;obtain⟨g2,o2,hg2,Gi,u0,u1,u2,u3,u4,u5⟩:=oq (lJ.out.hp.sl bY) hy;obtain⟨rfl,rfl⟩:g=g2/\o=o2:=by have:=hga.symm.trans hg2;simpa using this
 have hS:∀w',Fr nothing w4 w'->(w'.cell? ⟨mb,5,none⟩=some (.slice (some ⟨g,o,none⟩) m.hp.length qh.c)/\w'.cell? ⟨vb,1,none⟩=some (.int .i64 (n:Int)))/\w'.cell? ⟨g,o+n*6,none⟩=some (.int .i64 y.l.k)/\w'.cell? ⟨g,o+n*6+1,none⟩=some (.int .i64 y.l.n)/\w'.cell? ⟨g,o+n*6+2,none⟩=some (.string (bs y.l.t))/\w'.cell? ⟨g,o+n*6+3,none⟩=some (.int .i64 y.r.k)/\w'.cell? ⟨g,o+n*6+4,none⟩=some (.int .i64 y.r.n)/\w'.cell? ⟨g,o+n*6+5,none⟩=some (.string (bs y.r.t)):=fun w' hf=>
  ⟨⟨(hf.cell (p:=⟨mb,5,none⟩) lJ.out.mw id).trans Xa,(hf.cell (p:=⟨vb,1,none⟩) KQ.out.2.2 id).trans (KQ.out.1 1)⟩,(hf.cell (p:=⟨g,_,none⟩) Gi id).trans u0,(hf.cell (p:=⟨g,_,none⟩) Gi id).trans u1,(hf.cell (p:=⟨g,_,none⟩) Gi id).trans u2,(hf.cell (p:=⟨g,_,none⟩) Gi id).trans u3,(hf.cell (p:=⟨g,_,none⟩) Gi id).trans u4,(hf.cell (p:=⟨g,_,none⟩) Gi id).trans u5⟩
 clear mV OP c8 c5 cz cm p0 p1 p2 y0 y1 y2 pl hvb u0 u1 u2 u3 u4 u5 Xa hg2;have hni:0<=(n:Int)/\(n:Int)<(m.hp.length:Int):=by omega
 refine wp_region_held_drew (S:=fun w'=>(w'.cell? ⟨mb,5,none⟩=some (.slice (some ⟨g,o,none⟩) m.hp.length qh.c)/\w'.cell? ⟨vb,1,none⟩=some (.int .i64 (n:Int)))/\w'.cell? ⟨g,o+n*6,none⟩=some (.int .i64 y.l.k)/\w'.cell? ⟨g,o+n*6+1,none⟩=some (.int .i64 y.l.n)/\w'.cell? ⟨g,o+n*6+2,none⟩=some (.string (bs y.l.t))/\w'.cell? ⟨g,o+n*6+3,none⟩=some (.int .i64 y.r.k)/\w'.cell? ⟨g,o+n*6+4,none⟩=some (.int .i64 y.r.n)/\w'.cell? ⟨g,o+n*6+5,none⟩=some (.string (bs y.r.t))) (by kernel_rfl) (hS _ (Fr.refl nothing w4).drew) (fun hHeld=>?_)
 refine tk 0 ?_
 refine tk 1 ?_
 refine tk 2 ?_
 refine tk 3 ?_
 refine tk 4 ?_
 refine tk 5 ?_
 refine tk 6 ?_
 refine tk 7 ?_
 refine tk 8 ?_
 refine iP 9 (fun K hK=>?_)
 go_simp;have FZ:Fr nothing w4 (w4.alloc (.cells #[.int .i64 0,.int .i64 0,.string ⟨#[]⟩,.int .i64 0,.int .i64 0,.string ⟨#[]⟩] 88)).drew:=((Fr.refl nothing w4).alloc _).drew;have mZ:=af (w:=w4) (cs:=#[.int .i64 0,.int .i64 0,.string ⟨#[]⟩,.int .i64 0,.int .i64 0,.string ⟨#[]⟩]) (t:=88) (w1:=(w4.alloc (.cells #[.int .i64 0,.int .i64 0,.string ⟨#[]⟩,.int .i64 0,.int .i64 0,.string ⟨#[]⟩] 88)).drew) (S:=nothing) (Fr.refl nothing _).drew id;refine hK _ _ (hS _ FZ) (fun _=>?_)
 clear hK K hHeld
 try simp only[Act.put,sA,sZ,sS]
 have hHeld:=hS _ FZ;generalize(w4.alloc (.cells #[.int .i64 0,.int .i64 0,.string ⟨#[]⟩,.int .i64 0,.int .i64 0,.string ⟨#[]⟩] 88)).drew=w5 at*;have d0:=mZ.1 0;have d1:=mZ.1 1;have d2:=mZ.1 2;have d3:=mZ.1 3;have d4:=mZ.1 4;have d5:=mZ.1 5;have f0:=mZ.2.1 0;have f1:=mZ.2.1 1;have f2:=mZ.2.1 2;have f3:=mZ.2.1 3;have f4:=mZ.2.1 4;have f5:=mZ.2.1 5;obtain⟨w7,hw7,⟨t0,t1,t2,t3,t4,t5⟩,F57⟩:=abS (.int .i64 y.l.k) (.int .i64 y.l.n) (.string (bs y.l.t)) (.int .i64 y.r.k) (.int .i64 y.r.n) (.string (bs y.r.t)) d0 d1 d2 d3 d4 d5;have F47:Fr nothing w4 w7:=FZ.then F57 (fun k hk e=>by omega);refine iP 10 (fun K hK=>?_)
 go_simp
 try rw[hw7]
 refine hK _ _ (hS _ F47) (fun _=>?_)
 clear hK K
 try simp only[Act.put,sA,sZ,sS]
 refine wpAnyH_done (by kernel_rfl) ?_ _
 have iV:=hide (lJ.out.new F47);have aX:=hide (gX.out.trans (F47.mono (fun _ _ e=>e.elim)));have tl:=Nat.lt_of_lt_of_le mZ.2.2 F57.size;clear hHeld hS d0 d1 d2 d3 d4 d5 f0 f1 f2 f3 f4 f5 FZ mZ F57 F47 hw7 Gi
 by_cases o7:op=7
 ·have hr:=Vt.out;rw[if_pos o7] at hr;subst hr;subst o7
  go_wp2_with (first|(go_at_call 27;refine(fC iV.out hl (by show st.length<=100000;omega) y.l).mono ?_;rintro e w6 ⟨rfl,⟨q',fD,iW⟩,aR⟩;have bg:=hide (aX.out.trans (aR.mono (fun k _ e=> .inl (fM.out k e))));have gI:=hide fD;have xS:=hide iW;have oJ:=aX.out.size;obtain⟨n0,n1,n2,⟨z0,z1,z2⟩,nl⟩:=bV.out w6 bg.out;clear aR fD iW))
  refine bodyPost_ret (v:=je dB) (by simp[results,Tryz.results43,go_sem,n0,n1,n2,bs]) rfl ?_
  exact MR.fin (ev:=dB) HH.out.bl HH.out.ml dL.out bg.out gI.out (fun k hk=>(xS.out k hk).imp (fM.out k) (fun e=>by omega)) dF _ _ _
 ·have hr:=Vt.out;rw[if_neg o7] at hr;subst hr;have o7b:(op==7)=false:=by simpa using o7
  go_wp2_with (first|(go_at_call 27;refine(fC iV.out hl (by show st.length<=100000;omega) y.r).mono ?_;rintro e w6 ⟨rfl,⟨q',fD,iW⟩,aR⟩;have bg:=hide (aX.out.trans (aR.mono (fun k _ e=> .inl (fM.out k e))));have gI:=hide fD;have xS:=hide iW;have oJ:=aX.out.size;obtain⟨n0,n1,n2,⟨z0,z1,z2⟩,nl⟩:=bV.out w6 bg.out;clear aR fD iW))
  refine bodyPost_ret (v:=je dB) (by simp[results,Tryz.results43,go_sem,n0,n1,n2,bs]) rfl ?_
  exact MR.fin (ev:=dB) HH.out.bl HH.out.ml dL.out bg.out gI.out (fun k hk=>(xS.out k hk).imp (fM.out k) (fun e=>by omega)) dF _ _ _
end
end
section
section
variable {base mb : Nat} {x : Fx} {qf qh : ai} {rp : List aQ} {r : aQ} {m : Mc} {w : World}
theorem Mt.hput {w1:World} {hp':List aV} (h:Mt base mb x qf qh rp r m w) (hf:Fr (fun k=>qh.ob=some k) w w1) (ho:fF jv 88 6 base qh hp' w1):Mt base mb x qf qh rp r {m with hp:=hp'} w1:=by
 have hm:¬qh.ob=some mb:=fun e=>h.nm mb (.inr (.inl e)) rfl;have hc:∀j,w1.cell? ⟨mb,j,none⟩=w.cell? ⟨mb,j,none⟩:=fun j=>hf.cell (p:=⟨mb,j,none⟩) h.mw hm
 exact⟨(hc 0).trans h.c0,(hc 1).trans h.c1,(hc 2).trans h.c2,(hc 3).trans h.c3,(hc 4).trans h.c4,(hc 5).trans h.c5,(hc 6).trans h.c6,(hc 7).trans h.c7,(hc 8).trans h.c8,(hc 9).trans h.c9,(hc 10).trans h.c10,(hc 11).trans h.c11,(hc 12).trans h.c12,
  fun j=>(hf.frozen (p:=⟨mb,j,none⟩) h.mw hm).trans (h.z j),Nat.lt_of_lt_of_le h.ml hf.size,Nat.le_trans h.bl hf.size,h.fr.fr hf (fun b e e2=>h.Bz b e e2),h.lp,fun i q g e1 e2=>(h.ep i q g e1 e2).fr hf (fun b e e3=>(h.Ae q (List.mem_of_getElem? e1)).1 b e3 e) (fun b e e3=>(h.Ae q (List.mem_of_getElem? e1)).2 b e3 e),h.et.fr hf (fun b e e3=>h.De.1 b e3 e) (fun b e e3=>h.De.2 b e3 e),ho,h.Bz,h.Az,h.De,h.BA,h.Ae,h.Hq,h.AA,h.nm⟩
theorem Mt.side (h:Mt base mb x qf qh rp r m w) {n:Nat} {y:aV} (hy:m.hp[n]?=some y) (v:Val) (lf:Bool):
 ∃g,qh.a=some ⟨g,0,none⟩/\g<w.heap.size/\(∀j,j<6->(∃u,w.cell? ⟨g,n*6+j,none⟩=some u)/\w.frozen? ⟨g,n*6+j,none⟩=false)/\
  Mt base mb x qf qh rp r {m with hp:=m.hp.set n (if lf then⟨v,y.r⟩ else⟨y.l,v⟩)} (((w.setCell ⟨g,n*6+(if lf then 0 else 3),none⟩ (.int .i64 v.k)).setCell ⟨g,n*6+(if lf then 0 else 3)+1,none⟩ (.int .i64 v.n)).setCell ⟨g,n*6+(if lf then 0 else 3)+2,none⟩ (.string (bs v.t)))/\
  Fr (fun k=>qh.ob=some k) w (((w.setCell ⟨g,n*6+(if lf then 0 else 3),none⟩ (.int .i64 v.k)).setCell ⟨g,n*6+(if lf then 0 else 3)+1,none⟩ (.int .i64 v.n)).setCell ⟨g,n*6+(if lf then 0 else 3)+2,none⟩ (.string (bs v.t))):=by
 have hn:=(List.getElem?_eq_some_iff.1 hy).1;obtain⟨yl,yr⟩:=y;obtain⟨lk,ln,lt⟩:=yl;obtain⟨rk,rn,rt⟩:=yr;have hcell:∀j,j<6->∃g,qh.a=some ⟨g,0,none⟩/\g<w.heap.size/\(∃u,w.cell? ⟨g,n*6+j,none⟩=some u)/\w.frozen? ⟨g,n*6+j,none⟩=false:=fun j hj=>by
  obtain⟨g,a,b,c,d,e,-⟩:=h.hp.put bY (i:=n) (j:=j) (x:=⟨⟨lk,ln,lt⟩,⟨rk,rn,rt⟩⟩) (x':=⟨⟨lk,ln,lt⟩,⟨rk,rn,rt⟩⟩) (u:=((jv ⟨⟨lk,ln,lt⟩,⟨rk,rn,rt⟩⟩)[j]'(by rw[bY];exact hj))) hy hj (by simp);exact⟨g,a,c,⟨_,d.trans (List.getElem?_eq_getElem (by rw[bY];exact hj))⟩,e⟩
 obtain⟨g,ga,gl,-,-⟩:=hcell 0 (by decide);have hcs:∀j,j<6->(∃u,w.cell? ⟨g,n*6+j,none⟩=some u)/\w.frozen? ⟨g,n*6+j,none⟩=false:=fun j hj=>by
  obtain⟨g2,a,-,b,c⟩:=hcell j hj;obtain rfl:g=g2:=by have:=ga.symm.trans a;simpa using this
  exact⟨b,c⟩
 have WX:∀k,k=g->qh.ob=some k:=fun k e=>by subst e;exact h.hp.obs (by omega) ga
 cases lf with
 |true=>
  obtain⟨g1,a1,-,-,-,-,o1,f1⟩:=h.hp.put bY (i:=n) (j:=0) (x:=⟨⟨lk,ln,lt⟩,⟨rk,rn,rt⟩⟩) (x':=⟨⟨v.k,ln,lt⟩,⟨rk,rn,rt⟩⟩) (u:=.int .i64 v.k) hy (by decide) rfl;obtain rfl:g=g1:=by have:=ga.symm.trans a1;simpa using this
  obtain⟨g2,a2,-,-,-,-,o2,f2⟩:=o1.put bY (i:=n) (j:=1) (x:=⟨⟨v.k,ln,lt⟩,⟨rk,rn,rt⟩⟩) (x':=⟨⟨v.k,v.n,lt⟩,⟨rk,rn,rt⟩⟩) (u:=.int .i64 v.n) (List.getElem?_set_self hn) (by decide) rfl;obtain rfl:g=g2:=by have:=ga.symm.trans a2;simpa using this
  obtain⟨g3,a3,-,-,-,-,o3,f3⟩:=o2.put bY (i:=n) (j:=2) (x:=⟨⟨v.k,v.n,lt⟩,⟨rk,rn,rt⟩⟩) (x':=⟨v,⟨rk,rn,rt⟩⟩) (u:=.string (bs v.t)) (List.getElem?_set_self (by rw[List.length_set];exact hn)) (by decide) rfl;obtain rfl:g=g3:=by have:=ga.symm.trans a3;simpa using this
  simp only[List.set_set] at o3;have hF:=((f1.trans f2).trans f3).mono (fun k _ e=>WX k e);exact⟨g,ga,gl,hcs,h.hput hF o3,hF⟩
 |false=>
  obtain⟨g1,a1,-,-,-,-,o1,f1⟩:=h.hp.put bY (i:=n) (j:=3) (x:=⟨⟨lk,ln,lt⟩,⟨rk,rn,rt⟩⟩) (x':=⟨⟨lk,ln,lt⟩,⟨v.k,rn,rt⟩⟩) (u:=.int .i64 v.k) hy (by decide) rfl;obtain rfl:g=g1:=by have:=ga.symm.trans a1;simpa using this
  obtain⟨g2,a2,-,-,-,-,o2,f2⟩:=o1.put bY (i:=n) (j:=4) (x:=⟨⟨lk,ln,lt⟩,⟨v.k,rn,rt⟩⟩) (x':=⟨⟨lk,ln,lt⟩,⟨v.k,v.n,rt⟩⟩) (u:=.int .i64 v.n) (List.getElem?_set_self hn) (by decide) rfl;obtain rfl:g=g2:=by have:=ga.symm.trans a2;simpa using this
  obtain⟨g3,a3,-,-,-,-,o3,f3⟩:=o2.put bY (i:=n) (j:=5) (x:=⟨⟨lk,ln,lt⟩,⟨v.k,v.n,rt⟩⟩) (x':=⟨⟨lk,ln,lt⟩,v⟩) (u:=.string (bs v.t)) (List.getElem?_set_self (by rw[List.length_set];exact hn)) (by decide) rfl;obtain rfl:g=g3:=by have:=ga.symm.trans a3;simpa using this
  simp only[List.set_set] at o3;have hF:=((f1.trans f2).trans f3).mono (fun k _ e=>WX k e);exact⟨g,ga,gl,hcs,h.hput hF o3,hF⟩
theorem ED (h:Mt base mb x qf qh rp r m w) (hl:rp.length<=1000) {st:List Val} {a b:Val} (op:Int) (hst:m.f.stack=st++ [a,b]) (hs:st.length<=1000) (hv:a.k=2->0<=a.n/\a.n<m.hp.length):
 Calls Tryz.prog 44 #[.pointer (some ⟨mb,0,none⟩),.int .i64 op] w (MR base mb x (Ob qf qh rp r) w (if a.k≠2 then stk m st else{stk m st with hp:=m.hp.set a.n.toNat (if op=9 then⟨b,(m.hp.getD a.n.toNat c0).r⟩ else⟨(m.hp.getD a.n.toNat c0).l,b⟩)}) (if a.k≠2 then bQ 11 else dB)):=by
 have FA:Fr nothing w (w.alloc (.cells #[.int .i64 0,.string ⟨#[]⟩,.int .i64 0] 39)):=(Fr.refl _ _).alloc _;have mA:=af (Fr.refl nothing (w.alloc (.cells #[.int .i64 0,.string ⟨#[]⟩,.int .i64 0] 39))) id;have dF:∀k,Ob qf qh rp r k->k<w.heap.size:=fun k hk=>(h.ob hk).2
 have hnb:¬(Ob qf qh rp r w.heap.size\/w.heap.size=mb):=fun e=>by
  rcases e with e|e
  ·have:=dF _ e;omega
  ·have:=h.mw;omega
 obtain⟨wA,iU⟩:∃y,y=w.alloc (.cells #[.int .i64 0,.string ⟨#[]⟩,.int .i64 0] 39):=⟨_,rfl⟩
 rw[<-iU] at FA mA;have bV:Hid (∀w',Fr (fun k=>Ob qf qh rp r k\/k=mb) wA w'->w'.cell? ⟨w.heap.size,0,none⟩=some (.int .i64 0)/\w'.cell? ⟨w.heap.size,1,none⟩=some (.string ⟨#[]⟩)/\w'.cell? ⟨w.heap.size,2,none⟩=some (.int .i64 0)/\(w'.frozen? ⟨w.heap.size,0,none⟩=false/\w'.frozen? ⟨w.heap.size,1,none⟩=false/\w'.frozen? ⟨w.heap.size,2,none⟩=false)/\w.heap.size<w'.heap.size):=fun w' hf=>by
  have hc:∀j,w'.cell? ⟨w.heap.size,j,none⟩=_:=fun j=>(hf.cell (p:=⟨w.heap.size,j,none⟩) mA.2.2 hnb).trans (mA.1 j)
  have hz:∀j,w'.frozen? ⟨w.heap.size,j,none⟩=_:=fun j=>(hf.frozen (p:=⟨w.heap.size,j,none⟩) mA.2.2 hnb).trans (mA.2.1 j)
  exact⟨hc 0,hc 1,hc 2,⟨hz 0,hz 1,hz 2⟩,Nat.lt_of_lt_of_le mA.2.2 hf.size⟩
 have H0:=hide (h.new FA);have dL:=hide FA;have zA:wA.heap.size=w.heap.size+1:=by rw[iU];simp
 have hst':m.f.stack=(st++ [a])++ [b]:=by rw[hst];simp
 have pY:=hide (dM H0.out hl hst' (by simp;omega));have pQ:=iU.symm;have HH:=hide h;have Ey:=h.hp.n;clear h FA mA iU
 by_cases hk:a.k=2
 case neg=>
  rw[if_pos hk,if_pos hk];have hkb:(a.k !=2)=true:=by simpa using hk
  go_enter Tryz.func44,Tryz.ntmps44
  go_wp2_with (first
   |(go_at_call 17;refine(jK 11 _).mono ?_;rintro e w6 ⟨rfl,aR⟩;have bg:=hide (((dX.out.alloc (.cells #[.int .i64 b.k,.int .i64 b.n,.string (bs b.t)] 53)).alloc (.cells #[.int .i64 a.k,.int .i64 a.n,.string (bs a.t)] 53)).trans (aR.mono (fun _ _ e=>e.elim)));have gI:=hide ((mF.out.new (((Fr.refl _ _).alloc (.cells #[.int .i64 b.k,.int .i64 b.n,.string (bs b.t)] 53)).alloc (.cells #[.int .i64 a.k,.int .i64 a.n,.string (bs a.t)] 53))).new aR);obtain⟨n0,n1,n2,⟨z0,z1,z2⟩,nl⟩:=bV.out w6 bg.out;clear aR)
   |(go_at_call 40;refine(dM EC.out hl (st:=st) (v:=a) rfl (by omega)).mono ?_;rintro e w3 ⟨rfl,hM2,eG,hf3⟩;have mF:=hide hM2;have dX:=hide (bq.out.trans (hf3.mono (fun k _ hk=> .inl (oH.out k hk))));have fM:=hide (fun k hk=>oH.out k (eG k hk));obtain⟨p0,p1,p2,⟨y0,y1,y2⟩,pl⟩:=bV.out w3 dX.out;have cm:=hM2.mw;clear hM2 hf3 eG)
   |(go_at_call 40;refine pY.out.mono ?_;rintro e w2 ⟨rfl,hM1,oI,hf2⟩;have EC:=hide hM1;have oH:=hide oI;have bq:Hid (Fr (fun k=>Ob qf qh rp r k\/k=mb) wA w2):=hf2.mono (fun k _ e=> .inl e);clear hM1 oI hf2))
  refine bodyPost_ret (v:=je (bQ 11)) (by simp[results,Tryz.results44,go_sem,n0,n1,n2]) rfl ?_
  exact MR.fin HH.out.bl HH.out.ml dL.out bg.out gI.out (fun k hk=> .inl (fM.out k hk)) dF _ _ _
 have hkb:(a.k !=2)=false:=by simpa using hk
 have hk':¬a.k≠2:=fun e=>e hk;rw[if_neg hk',if_neg hk'];obtain⟨ak,an,at'⟩:=a;simp only at hk hv;subst hk;obtain⟨VA,v1'⟩:=hv rfl;obtain⟨n,rfl⟩:∃n:Nat,an=n:=⟨an.toNat,by omega⟩
 have hn:n<m.hp.length:=by omega
 have hy:m.hp[n]?=some m.hp[n]:=List.getElem?_eq_getElem hn;have hgd:m.hp.getD n c0=m.hp[n]:=by simp[List.getD_eq_getElem?_getD,hy]
 simp only[Int.toNat_natCast];rw[hgd];generalize m.hp[n]=y at hy;obtain⟨rv,Sc⟩:∃rv,(if op=9 then(⟨b,y.r⟩:aV) else⟨y.l,b⟩)=rv:=⟨_,rfl⟩
 rw[Sc];have Vt:=hide Sc;clear Sc
 go_enter Tryz.func44,Tryz.ntmps44
 go_wp2_with (first
  |(go_at_call 40;refine(dM EC.out hl (st:=st) (v:=⟨2,(n:Int),at'⟩) rfl (by omega)).mono ?_;rintro e w3 ⟨rfl,hM2,eG,hf3⟩;have mF:=hide hM2;have dX:=hide (bq.out.trans (hf3.mono (fun k _ hk=> .inl (oH.out k hk))));have fM:=hide (fun k hk=>oH.out k (eG k hk));obtain⟨p0,p1,p2,⟨y0,y1,y2⟩,pl⟩:=bV.out w3 dX.out;have cm:=hM2.mw;clear hM2 hf3 eG)
  |(go_at_call 40;refine pY.out.mono ?_;rintro e w2 ⟨rfl,hM1,oI,hf2⟩;have EC:=hide hM1;have oH:=hide oI;have bq:Hid (Fr (fun k=>Ob qf qh rp r k\/k=mb) wA w2):=hf2.mono (fun k _ e=> .inl e);clear hM1 oI hf2))
 have mB:=af (w:=w3) (cs:=#[.int .i64 b.k,.int .i64 b.n,.string (bs b.t)]) (t:=53) (w1:=(w3.alloc (.cells #[.int .i64 b.k,.int .i64 b.n,.string (bs b.t)] 53)).alloc (.cells #[.int .i64 2,.int .i64 (n:Int),.string (bs at')] 53)) (S:=nothing) ((Fr.refl _ _).alloc _) id;have mA:=af (Fr.refl nothing ((w3.alloc (.cells #[.int .i64 b.k,.int .i64 b.n,.string (bs b.t)] 53)).alloc (.cells #[.int .i64 2,.int .i64 (n:Int),.string (bs at')] 53))) id;have hz1:(w3.alloc (.cells #[.int .i64 b.k,.int .i64 b.n,.string (bs b.t)] 53)).heap.size=w3.heap.size+1:=by simp
 rw[hz1] at mA;have lJ:=hide (mF.out.new (((Fr.refl _ _).alloc (.cells #[.int .i64 b.k,.int .i64 b.n,.string (bs b.t)] 53)).alloc (.cells #[.int .i64 2,.int .i64 (n:Int),.string (bs at')] 53)));have gX:Hid (Fr (fun k=>Ob qf qh rp r k\/k=mb) wA ((w3.alloc (.cells #[.int .i64 b.k,.int .i64 b.n,.string (bs b.t)] 53)).alloc (.cells #[.int .i64 2,.int .i64 (n:Int),.string (bs at')] 53))):=(dX.out.alloc _).alloc _;obtain⟨vb,hvb⟩:∃z,z=w3.heap.size:=⟨_,rfl⟩
 rw[<-hvb] at mB mA;rw[<-hvb];generalize(w3.alloc (.cells #[.int .i64 b.k,.int .i64 b.n,.string (bs b.t)] 53)).alloc (.cells #[.int .i64 2,.int .i64 (n:Int),.string (bs at')] 53)=w4 at*;have oK:=hide mB;have KS:=hide mA;obtain⟨g,hga,gl,hgc,-,-⟩:=lJ.out.side hy b true;have Xa:=lJ.out.c5;rw[hga,Ey] at Xa;have hS:∀w',Fr nothing w4 w'->(w'.cell? ⟨mb,5,none⟩=some (.slice (some ⟨g,0,none⟩) m.hp.length qh.c)/\w'.cell? ⟨vb+1,1,none⟩=some (.int .i64 (n:Int))):=fun w' hf=>⟨(hf.cell (p:=⟨mb,5,none⟩) lJ.out.mw id).trans Xa,(hf.cell (p:=⟨vb+1,1,none⟩) KS.out.2.2 id).trans (KS.out.1 1)⟩
 clear mB mA hz1 cm p0 p1 p2 y0 y1 y2 pl hvb Xa;have hni:0<=(n:Int)/\(n:Int)<(m.hp.length:Int):=by omega
 refine wp_region_held_drew (S:=fun w'=>(w'.cell? ⟨mb,5,none⟩=some (.slice (some ⟨g,0,none⟩) m.hp.length qh.c)/\w'.cell? ⟨vb+1,1,none⟩=some (.int .i64 (n:Int)))) (by kernel_rfl) (hS _ (Fr.refl nothing w4).drew) (fun hHeld=>?_)
 refine tk 0 ?_
 refine tk 1 ?_
 refine tk 2 ?_
 refine tk 3 ?_
 refine tk 4 ?_
 refine tk 5 ?_
 refine tk 6 ?_
 refine tk 7 ?_
 refine tk 8 ?_
 refine wpAnyH_done (by kernel_rfl) ?_ _
 have iV:=hide (lJ.out.new (Fr.refl nothing w4).drew);have aX:=hide (gX.out.drew);have hgs:∀j,j<6->(∃u,w4.drew.cell? ⟨g,n*6+j,none⟩=some u)/\w4.drew.frozen? ⟨g,n*6+j,none⟩=false:=hgc
 have k0:w4.drew.cell? ⟨vb,0,none⟩=some (.int .i64 b.k):=oK.out.1 0;have k1:w4.drew.cell? ⟨vb,1,none⟩=some (.int .i64 b.n):=oK.out.1 1;have k2:w4.drew.cell? ⟨vb,2,none⟩=some (.string (bs b.t)):=oK.out.1 2;have kl:vb<w4.drew.heap.size:=oK.out.2.2;have gl':g<w4.drew.heap.size:=gl;clear hHeld hS;generalize w4.drew=w5 at*;obtain⟨p0,p1,p2,⟨y0,y1,y2⟩,pl⟩:=bV.out w5 aX.out
 by_cases o9:op=9
 ·have hr:=Vt.out;rw[if_pos o9] at hr;subst hr;subst o9;obtain⟨g2,hg2,-,-,fD,fK⟩:=iV.out.side hy b true;obtain rfl:g=g2:=by have:=hga.symm.trans hg2;simpa using this
  obtain⟨⟨u0,e0⟩,z0⟩:=hgs 0 (by decide);obtain⟨⟨u1,e1⟩,z1⟩:=hgs 1 (by decide);obtain⟨⟨u2,e2⟩,z2⟩:=hgs 2 (by decide);simp only[if_true,Nat.add_zero] at fD fK e0 z0;obtain⟨w6,nK⟩:∃w6,((w5.setCell ⟨g,n*6,none⟩ (.int .i64 b.k)).setCell ⟨g,n*6+1,none⟩ (.int .i64 b.n)).setCell ⟨g,n*6+2,none⟩ (.string (bs b.t))=w6:=⟨_,rfl⟩
  rw[nK] at fD fK;have bg:=hide (aX.out.trans (fK.mono (fun k _ e=> .inl (.inr (.inl e)))));have gI:=hide fD;obtain⟨n0,n1,n2,⟨q0,q1,q2⟩,nl⟩:=bV.out w6 bg.out;clear fK fD hgs hg2
  go_wp2_with fail
  refine bodyPost_ret (v:=je dB) (by simp[results,Tryz.results44,go_sem,n0,n1,n2,bs]) rfl ?_
  exact MR.fin (ev:=dB) HH.out.bl HH.out.ml dL.out bg.out gI.out (fun k hk=> .inl (fM.out k hk)) dF _ _ _
 ·have hr:=Vt.out;rw[if_neg o9] at hr;subst hr;have o9b:(op==9)=false:=by simpa using o9
  obtain⟨g2,hg2,-,-,fD,fK⟩:=iV.out.side hy b false;obtain rfl:g=g2:=by have:=hga.symm.trans hg2;simpa using this
  obtain⟨⟨u0,e0⟩,z0⟩:=hgs 3 (by decide);obtain⟨⟨u1,e1⟩,z1⟩:=hgs 4 (by decide);obtain⟨⟨u2,e2⟩,z2⟩:=hgs 5 (by decide);simp only[Bool.false_eq_true,if_false] at fD fK;obtain⟨w6,nK⟩:∃w6,((w5.setCell ⟨g,n*6+3,none⟩ (.int .i64 b.k)).setCell ⟨g,n*6+3+1,none⟩ (.int .i64 b.n)).setCell ⟨g,n*6+3+2,none⟩ (.string (bs b.t))=w6:=⟨_,rfl⟩
  rw[nK] at fD fK;have bg:=hide (aX.out.trans (fK.mono (fun k _ e=> .inl (.inr (.inl e)))));have gI:=hide fD;obtain⟨n0,n1,n2,⟨q0,q1,q2⟩,nl⟩:=bV.out w6 bg.out;clear fK fD hgs hg2
  go_wp2_with fail
  refine bodyPost_ret (v:=je dB) (by simp[results,Tryz.results44,go_sem,n0,n1,n2,bs]) rfl ?_
  exact MR.fin (ev:=dB) HH.out.bl HH.out.ml dL.out bg.out gI.out (fun k hk=> .inl (fM.out k hk)) dF _ _ _
end
end
end Go.Proofs.YtbcadjgpcfmkfaaGreatDoor
