/- CPut; CShowT. -/
import Derived.Deep.DeepCutAuto
import Derived.Laws.EntriesVeiled
import Derived.Test.YtbcadjgpcfmkfaaGreatDoorPartU4
import Derived.Test.YtbcadjgpcfmkfaaGreatDoorPartU1
set_option maxHeartbeats 0
set_option maxRecDepth 100000
set_option linter.unusedSimpArgs false
namespace Go.Proofs.YtbcadjgpcfmkfaaGreatDoor
open Go Go.RowKit
section
open Go.pG
namespace Cl
theorem tQ {o:Oper} {a:Act} {f:FuncId} {xs:Array Operand} {ats:Array TypeId} (ho:o.op=.call {callee:=.value (.func f),args:=xs,argTypes:=ats}):execOp a.eval o=callFunc f (#[]++xs.map a.eval++ #[]):=by
 obtain⟨dst,op,ty,pos,after,guard⟩:=o;simp only at ho;subst ho;rfl
theorem aF {P:Program} {w:World} {ops:Array Oper} {o:Oper} {a:Act} {K:Act->World->Prop} {Q:Exit->Act->World->Prop} {E:Prop} (hgd:Region.wanted o (yielded ops a.tmps)=true) (f:FuncId) (fn:Func) (xs:Array Operand) (ats:Array TypeId)
 (ho:o.op=.call {callee:=.value (.func f),args:=xs,argTypes:=ats}) (hf:P.funcs[f]?=some fn) (hname:(fn.name== "runtime.NumGoroutine")=false) (hbody:fn.body.isNone=false) (args:Array Value) (hx:xs.map a.eval=args)
 (R:Ending->World->Prop) (hc:Calls P f args w R) (h:∀e w',R e w'->∃v,e=.returned v/\K (a.put o.dst v) w'):
 if Region.wanted o (yielded ops a.tmps)=true then Oper.wp P o a w K Q else E:=by
 rw[if_pos hgd];unfold Oper.wp;rw[tQ ho];have hr:(callFunc f (#[]++xs.map a.eval++ #[])).run P w=.ok (.enter f args) w:=by
  have h1:fn.name≠ "runtime.NumGoroutine":=by simpa using hname
  have h2:fn.body≠none:=by intro e;rw[e] at hbody;cases hbody
  simp[callFunc,hf,h1,h2,hx,run_program]
 rw[hr,Oper.upon_enter];refine hc.mono fun e w' hR=>?_
 obtain⟨v,rfl,hk⟩:=h e w' hR;exact hk
theorem xe {P:Program} {w:World} {ops:Array Oper} {o:Oper} {a:Act} {K:Act->World->Prop} {Q:Exit->Act->World->Prop} {E:Prop} (hgd:Region.wanted o (yielded ops a.tmps)=true) (f:FuncId) (fn:Func) (x:Operand) (xs:Array Operand) (ats:Array TypeId)
 (ho:o.op=.call {callee:=.value x,args:=xs,argTypes:=ats}) (caps:Array Value) (hv:a.eval x=.func (.func f) #[] caps) (hf:P.funcs[f]?=some fn) (hname:(fn.name== "runtime.NumGoroutine")=false) (hbody:fn.body.isNone=false) (args:Array Value) (hx:xs.map a.eval++caps=args)
 (R:Ending->World->Prop) (hc:Calls P f args w R) (h:∀e w',R e w'->∃v,e=.returned v/\K (a.put o.dst v) w'):
 if Region.wanted o (yielded ops a.tmps)=true then Oper.wp P o a w K Q else E:=by
 rw[if_pos hgd];unfold Oper.wp;have hr:(execOp a.eval o).run P w=.ok (.enter f args) w:=by
  have h1:fn.name≠ "runtime.NumGoroutine":=by simpa using hname
  have h2:fn.body≠none:=by intro e;rw[e] at hbody;cases hbody
  unfold execOp;simp[ho,resolve,hv,Deferred.ofValue,invoke,callFunc,hf,h1,h2,hx,run_program]
 rw[hr,Oper.upon_enter];refine hc.mono fun e w' hR=>?_
 obtain⟨v,rfl,hk⟩:=h e w' hR;exact hk
theorem ZJ {n:Int} (h0:-9223372036854775808<=n) (h1:n<=9223372036854775807):IntKind.i64.wrap n=n:=by
 rw[IntKind.wrap_i64];omega
theorem KA:(Tryz.prog.info? 5).map (fun i=>(i.zero,i.size,i.bytes))=some (some (.int .u8 0),1,1):=by kernel_rfl
abbrev rC (w:World):Prop:=Lib.TabIs Tryz.prog w "internal/strconv.uint64pow10" .u64 Lib.pow10Tab
theorem CO (w:World) (n:Nat) (os:Array Obj):Fr nothing w (Sort.grow (w.drewN n) os):=
 ⟨rfl,rfl,rfl,by simp[Sort.grow],fun k hk _=>by simp[Sort.grow,Array.getElem?_append_left hk]⟩
theorem strCells_eq (s:ByteArray):Lib.strCells s=s.data.toList.map ny:=rfl
def pJ (w0:World) (hv:Value) (acc bs:List UInt8) (ov:Value) (w:World):Ending->World->Prop:=
 fun e w'=>e=.returned (.tuple #[])/\∃YT,SI w0 hv (acc++bs) YT w'/\SF w0 ov YT w w'
theorem rP {w w1 w2:World} {row:Option Nat} (hf:Fr nothing w w1) (hg:w1.grownBy w2 row) {b:Nat} (hb:b<w.heap.size) (hne:some b≠row) {v:Value} (h:w.cell? ⟨b,0,none⟩=some v):w2.cell? ⟨b,0,none⟩=some v:=by
 rw[hg.cell_far ⟨b,0,none⟩ (Nat.lt_of_lt_of_le hb hf.size) hne,hf.cell (p:=⟨b,0,none⟩) hb id,h]
theorem pK {w w1 w2:World} {row:Option Nat} (hf:Fr nothing w w1) (hg:w1.grownBy w2 row) {b:Nat} (hb:b<w.heap.size) (hne:some b≠row) {v:Bool} (h:w.frozen? ⟨b,0,none⟩=v):w2.frozen? ⟨b,0,none⟩=v:=by
 rw[hg.frozen_far ⟨b,0,none⟩ (Nat.lt_of_lt_of_le hb hf.size) hne,hf.frozen (p:=⟨b,0,none⟩) hb id,h]
theorem Oc {w w1:World} {O:Obj} {row:Option Nat} (hg:(w.alloc O).grownBy w1 row) {b:Nat} (hb:b<w.heap.size) (hne:some b≠row) {v:Value} (h:w.cell? ⟨b,0,none⟩=some v):w1.cell? ⟨b,0,none⟩=some v:=by
 rw[hg.cell_far ⟨b,0,none⟩ (by simp;omega) hne,World.cell?_alloc_past _ _ _ hb,h]
theorem KC {w w1:World} {O:Obj} {row:Option Nat} (hg:(w.alloc O).grownBy w1 row) {b:Nat} (hb:b<w.heap.size) (hne:some b≠row) {v:Bool} (h:w.frozen? ⟨b,0,none⟩=v):w1.frozen? ⟨b,0,none⟩=v:=by
 rw[hg.frozen_far ⟨b,0,none⟩ (by simp;omega) hne,World.frozen?_alloc_past _ _ _ hb,h]
theorem CP {w0:World} {hv:Value} {acc bs:List UInt8} {ov:Value} {w wm w1:World} {a:Option Addr} {n c:Nat} (hI:SI w0 hv acc ov w) (hf:Fr nothing w wm) (hr:w1.ownsRow (w0.heap.size+4) 5 1 (.slice a n c) n ((acc++bs).map ny)) (hn:n=(acc++bs).length) (hg:wm.grownBy w1 ov.ownBlock)
 (hl:∀k,(Value.slice a n c).ownBlock=some k->ov.ownBlock=some k\/k=wm.heap.size):pJ w0 hv acc bs ov w (.returned (.tuple #[])) (w1.setCell ⟨w0.heap.size+2,0,none⟩ (.slice a n c)):=by
 have:=(hI.news hf).more hr hn hg hl;exact⟨rfl,_,this.1,(SF.news hf).trans this.2⟩
set_option maxHeartbeats 400000 in
theorem Ed (w0:World) (hv:Value) (acc:List UInt8) (oa:Option Addr) (oc:Nat) (w:World) (v:Val) (deep:Int) (hI:SI w0 hv acc (.slice oa acc.length oc) w) (hk:v.k=1) (hb:acc.length+v.t.size<=1099511627776):
 Calls Tryz.prog 77 #[vv v,.int .i64 deep,.pointer (some ⟨w0.heap.size+2,0,none⟩),.pointer (some ⟨w0.heap.size,0,none⟩),.pointer (some ⟨w0.heap.size+3,0,none⟩)] w (pJ w0 hv acc v.t.data.toList (.slice oa acc.length oc) w):=by
 obtain⟨vk,vn,vt⟩:=v;simp only at hk hb⊢;subst hk;have ob:=hI.vL;have of:=hI.Oa;have hB:=hI.big;have hB2:w0.heap.size+2<w.heap.size:=by omega
 have hrow:=hI.row;have HI:=hide hI;have O2:=hide (bX hrow (b:=w0.heap.size+2) (by omega));clear hI;obtain⟨i0,hi0,hz0,hz1,hz2⟩:=info_parts KA
 go_enter Tryz.func77,Tryz.ntmps77
 go_wp2_with (at_builtin;go_must (refine kU _ rfl _ _ 148 9 rfl (w0.heap.size+4) 5 i0 Tryz.underlying148 Tryz.underlying9 hi0 hz0 hz1 hz2 (.slice oa acc.length oc) _ _ rfl (hrow.alloc _) vt rfl (by unfold maxLen;omega) (by omega) (by simp;omega) ?_);intro a1 c1 w1 hr1 hg1 hl1;have k1:=Oc hg1 hB2 O2.out ob;have k2:=KC hg1 hB2 O2.out of;clear hrow ob of)
 go_end0
 exact CP HI.out ((Fr.refl _ _).alloc _) (by simpa[strCells_eq] using hr1) (by simp) hg1 hl1
set_option maxHeartbeats 400000 in
theorem KD (w0:World) (hv:Value) (acc:List UInt8) (oa:Option Addr) (oc:Nat) (w:World) (v:Val) (deep:Int) (hI:SI w0 hv acc (.slice oa acc.length oc) w) (ht:rC w0) (hk:v.k=0) (h0:-9223372036854775808<=v.n) (h1:v.n<=9223372036854775807) (hb:acc.length+21<=1099511627776):
 Calls Tryz.prog 77 #[vv v,.int .i64 deep,.pointer (some ⟨w0.heap.size+2,0,none⟩),.pointer (some ⟨w0.heap.size,0,none⟩),.pointer (some ⟨w0.heap.size+3,0,none⟩)] w (pJ w0 hv acc (Lib.itoa v.n) (.slice oa acc.length oc) w):=by
 obtain⟨vk,vn,vt⟩:=v;simp only at hk hb h0 h1⊢;subst hk;have ob:=hI.vL;have of:=hI.Oa;have hB:=hI.big;have hB2:w0.heap.size+2<w.heap.size:=by omega
 have hrow:=hI.row;have HI:=hide hI;have O2:=hide (bX hrow (b:=w0.heap.size+2) (by omega));have HT:Hid (∀w',Below w0.heap.size w0 w'->rC w'):=Lib.tabBelow_of_tabIs ht
 have hlen:(Lib.itoa vn).length<=21:=Lib.itoa_length_le vn h0 h1;have hsz:(⟨(Lib.itoa vn).toArray⟩:ByteArray).size=(Lib.itoa vn).length:=rfl;have HR:=hide hrow;clear hI ht hrow;obtain⟨i0,hi0,hz0,hz1,hz2⟩:=info_parts KA
 go_enter Tryz.func77,Tryz.ntmps77
 go_wp2
 go_region_law (first
  |(refine aF rfl 78 Tryz.f78 #[.tmp 13] #[3] rfl Tryz.func78 (by kernel_rfl) (by kernel_rfl) #[.int .i64 vn] (by simp[Act.eval]) _ (Tryz.strconv_Itoa vn h0 h1 _ (HT.out _ (by exact(HI.out.old.alloc (by omega) _).drew))) ?_;rintro e w2 ⟨rfl,q2,os2,he2⟩;have F2:Hid (Fr nothing w w2):=(by rw[he2];exact((Fr.refl _ _).alloc _).drew.trans (CO _ _ _));clear he2;have s2:w0.heap.size+2<w2.heap.size:=Nat.lt_of_lt_of_le hB2 F2.out.size;have ob2:=(F2.out.cell (p:=⟨w0.heap.size+2,0,none⟩) hB2 id).trans ob;refine⟨_,rfl,?_⟩)
  |(refine vK _ rfl (.tmp 11) (.tmp 14) 148 9 rfl (w0.heap.size+4) 5 i0 Tryz.underlying148 Tryz.underlying9 hi0 hz0 hz1 hz2 (.slice oa acc.length oc) acc.length (acc.map ny) (by simp[Act.eval]) (by exact aI HR.out F2.out (fun _ _=>id)) ⟨(Lib.itoa vn).toArray⟩ (by simp[Act.eval]) (by rw[hsz];unfold maxLen;omega) (by rw[hsz];omega) (by have:=F2.out.size;omega) ?_;intro a1 c1 w3 hr3 hg3 hl3;have k1:=rP F2.out hg3 hB2 O2.out ob;have k2:=pK F2.out hg3 hB2 O2.out of))
 all_goals go_wp2
 all_goals go_end0
 all_goals exact CP HI.out F2.out (by simpa[strCells_eq,hsz] using hr3) (by simp) hg3 hl3
set_option maxHeartbeats 400000 in
theorem Od (w0:World) (hv:Value) (acc:List UInt8) (oa:Option Addr) (oc:Nat) (w:World) (v:Val) (deep:Int) (hI:SI w0 hv acc (.slice oa acc.length oc) w) (hk:v.k=2) (hd:deep<=0) (hb:acc.length+2<=1099511627776):
 Calls Tryz.prog 77 #[vv v,.int .i64 deep,.pointer (some ⟨w0.heap.size+2,0,none⟩),.pointer (some ⟨w0.heap.size,0,none⟩),.pointer (some ⟨w0.heap.size+3,0,none⟩)] w (pJ w0 hv acc [46,46] (.slice oa acc.length oc) w):=by
 obtain⟨vk,vn,vt⟩:=v;simp only at hk hb⊢;subst hk;have ob:=hI.vL;have of:=hI.Oa;have hB:=hI.big;have hB2:w0.heap.size+2<w.heap.size:=by omega
 have hrow:=hI.row;have HI:=hide hI;have O2:=hide (bX hrow (b:=w0.heap.size+2) (by omega));clear hI;obtain⟨i0,hi0,hz0,hz1,hz2⟩:=info_parts KA;have hsz:(⟨#[46,46]⟩:ByteArray).size=2:=rfl
 go_enter Tryz.func77,Tryz.ntmps77
 go_wp2_with (at_builtin;go_must (refine kU _ rfl _ _ 148 9 rfl (w0.heap.size+4) 5 i0 Tryz.underlying148 Tryz.underlying9 hi0 hz0 hz1 hz2 (.slice oa acc.length oc) _ _ rfl (hrow.alloc _) ⟨#[46,46]⟩ rfl (by rw[hsz];unfold maxLen;omega) (by rw[hsz];omega) (by simp;omega) ?_);intro a1 c1 w1 hr1 hg1 hl1;have k1:=Oc hg1 hB2 O2.out ob;have k2:=KC hg1 hB2 O2.out of;clear hrow ob of)
 go_end0
 exact CP HI.out ((Fr.refl _ _).alloc _) (by simpa[strCells_eq,hsz] using hr1) (by simp) hg1 hl1
theorem xg {w0:World} {hv:Value} {acc:List UInt8} {ov:Value} {w wm w1:World} {g n cp:Nat} {c:UInt8} (hI:SI w0 hv acc ov w) (hf:Fr nothing w wm) (hr:w1.ownsRow (w0.heap.size+4) 5 1 (.slice (some ⟨g,0,none⟩) (acc.length+1) cp) (acc.length+1) (acc.map ny++ [ny c])) (hn:n=acc.length+1) (hg:wm.grownBy w1 ov.ownBlock)
 (hat:ov.ownBlock=some g\/g=wm.heap.size):SI w0 hv (acc++ [c]) (.slice (some ⟨g,0,none⟩) n cp) (w1.setCell ⟨w0.heap.size+2,0,none⟩ (.slice (some ⟨g,0,none⟩) n cp))/\SF w0 ov (.slice (some ⟨g,0,none⟩) n cp) w (w1.setCell ⟨w0.heap.size+2,0,none⟩ (.slice (some ⟨g,0,none⟩) n cp)):=by
 subst hn;have:=(hI.news hf).more (bs:=[c]) (a:=some ⟨g,0,none⟩) (n:=acc.length+1) (c:=cp) (by simpa using hr) (by simp) hg (fun k hk=>by
  have e:g=k:=by simpa[Value.ownBlock] using hk
  rw[<-e];exact hat)
 exact⟨this.1,(SF.news hf).trans this.2⟩
theorem Wz (w:World) (B:Nat) (hB:B=w.heap.size) (c:Int) (t:TypeId):∀j u,[Value.int .u8 c][j]?=some u->(w.alloc (.cells #[.int .u8 c] t)).cell? ((⟨B,0,none⟩:Addr).add j)=some u:=by
 subst hB;exact World.news_of_block (cs:=#[.int .u8 c]) (t:=t) (fr:=(0,0)) (bW _ _)
theorem xh (c:Int):∀u∈ [Value.int .u8 c],u.oneCell'=true:=by simp[Value.oneCell']
theorem Bl {w0:World} {hv:Value} {acc:List UInt8} {ov YT:Value} {w wx:World} {cs:Array Value} {t:TypeId} (hI:SI w0 hv acc ov w) (hF:SF w0 ov YT (w.alloc (.cells cs t)) wx):(∀j,wx.cell? ⟨w.heap.size,j,none⟩=cs[j]?)/\w.heap.size<wx.heap.size:=by
 have hb:=hI.big;refine⟨fun j=>?_,by have:=hF.1.size;simp at this;omega⟩
 rw[hF.1.cell (p:=⟨w.heap.size,j,none⟩) (by simp) ?_,World.cell?_alloc_new];rintro(e|e)
 ·simp at e;omega
 ·have:=(hI.row.lt _ e).2;simp at this
theorem SI.shape {w0:World} {hv:Value} {acc:List UInt8} {ov:Value} {w:World} (hI:SI w0 hv acc ov w):∃oa oc,ov=.slice oa acc.length oc:=by
 rcases hI.row.2 with⟨rfl,h0⟩|⟨g,c,_,rfl,_⟩
 ·exact⟨none,0,by rw[h0]⟩
 ·exact⟨_,_,rfl⟩
theorem xk {cl:List aV} {i:Nat} (hi:i<cl.length):cellAt cl i∈cl:=by
 unfold cellAt;rw[List.getD_eq_getElem?_getD,List.getElem?_eq_getElem hi];exact List.getElem_mem hi
def KE (w0:World) (cl:List aV) (hv:Value) (d:Nat):Prop:=
 ∀(v:Val) (deep:Int) (acc:List UInt8) (ov:Value) (w:World),deep.toNat=d->deep<=5->-9223372036854775808<=deep->okV cl.length v=true->wX v->acc.length+64*2^d<=1099511627776->SI w0 hv acc ov w->
  Calls Tryz.prog 77 #[vv v,.int .i64 deep,.pointer (some ⟨w0.heap.size+2,0,none⟩),.pointer (some ⟨w0.heap.size,0,none⟩),.pointer (some ⟨w0.heap.size+3,0,none⟩)] w (pJ w0 hv acc (dn cl d v) ov w)
set_option maxHeartbeats 400000 in
theorem Oe (w0:World) (cl:List aV) (ha:Option Addr) (hc:Nat) (d:Nat) (ih:KE w0 cl (.slice ha cl.length hc) d) (hs:Sl bZ 6 w0 (.slice ha cl.length hc) cl) (LX:∀c∈cl,SV cl.length c=true/\WfC c)
 (acc:List UInt8) (oa:Option Addr) (oc:Nat) (w:World) (i:Nat) (t:ByteArray) (deep:Int) (hdp:deep.toNat=d+1) (hd5:deep<=5) (hi:i<cl.length) (hb:acc.length+64*2^(d+1)<=1099511627776) (hl:∀v,(okV cl.length v=true)->wX v->(dn cl d v).length+3<=64*2^d)
 (hI:SI w0 (.slice ha cl.length hc) acc (.slice oa acc.length oc) w):
 Calls Tryz.prog 77 #[vv ⟨2,i,t⟩,.int .i64 deep,.pointer (some ⟨w0.heap.size+2,0,none⟩),.pointer (some ⟨w0.heap.size,0,none⟩),.pointer (some ⟨w0.heap.size+3,0,none⟩)] w (pJ w0 (.slice ha cl.length hc) acc (40::(dn cl d (cellAt cl i).l++32::(dn cl d (cellAt cl i).r++ [41]))) (.slice oa acc.length oc) w):=by
 obtain⟨b,off,cap,he,hbl,c0,c1,c2,c3,c4,c5⟩:=uX hs hi;obtain⟨rfl,rfl⟩:ha=some ⟨b,off,none⟩/\hc=cap:=by simpa using he
 have ob:=hI.vL;have of:=hI.Oa;have hbx:=hI.lF;have hB:=hI.big;have hB2:w0.heap.size+2<w.heap.size:=by omega
 have hB0:w0.heap.size<w.heap.size:=by omega
 have hlen:cl.length<=maxLen:=by obtain⟨_,_,_,h,_⟩:=hs;exact h
 unfold maxLen at hlen;have hpos:0<deep:=by omega
 have hacc:acc.length+128<=1099511627776:=by have:1<=2^d:=Nat.one_le_two_pow;omega
 have HP:=hide (And.intro hb hl);have HC:=hide (And.intro c0 (And.intro c1 (And.intro c2 (And.intro c3 (And.intro c4 c5)))));have HR:=hide hI.row;have HI:=hide hI;have IH:=hide ih;have HS:=hide hs;have HK:=hide LX;have O2:=hide (bX hI.row (b:=w0.heap.size+2) (by omega));have hn:(decide (0<=(i:Int))&&decide ((i:Int)<(cl.length:Int)))=true:=by simp;omega
 clear hI ih hs LX he hb hl c0 c1 c2 c3 c4 c5;obtain⟨i0,hi0,hz0,hz1,hz2⟩:=info_parts KA
 go_enter Tryz.func77,Tryz.ntmps77
 go_wp2_with (first
  |(go_at_call 52;refine(mQ _ _ _).mono ?_;rw[hn];rintro e w' ⟨rfl,rfl⟩)
  |(at_builtin;go_must (refine wpList_append_lies _ rfl _ _ 148 rfl (w0.heap.size+4) 5 i0 (.int .u8 0) 1 1 Tryz.underlying148 hi0 hz0 hz1 hz2 rfl (by decide) (.slice oa acc.length oc) acc.length (acc.map ny) rfl ((HR.out.alloc _).alloc _) ⟨w.heap.size+1,0,none⟩ 1 1 [.int .u8 40] rfl rfl (Wz _ _ (by simp) 40 5) (xh 40) (by decide) (by unfold maxLen;omega) (by omega) (by simp;omega) _ rfl ?_);intro g cp w1 hr1 hg1 Gu hlt1;have k1:=rP (((Fr.refl nothing w).alloc _).alloc _) hg1 hB2 O2.out ob;have k2:=pK (((Fr.refl nothing w).alloc _).alloc _) hg1 hB2 O2.out of;clear ob of hbx))
 have P2:=xg (c:=40) (HI.out.news ((Fr.refl nothing w).alloc (.cells #[.int .i64 2,.int .i64 i,.string t] 53))) ((Fr.refl nothing _).alloc _) hr1 rfl hg1 Gu;obtain⟨w2,hw2⟩:∃w2,w2=w1.setCell ⟨w0.heap.size+2,0,none⟩ (.slice (some ⟨g,0,none⟩) (acc.length+1) cp):=⟨_,rfl⟩
 rw[<-hw2] at P2⊢;clear hw2 k1 k2 hr1 hg1 Gu hlt1;have hok:=HK.out (cellAt cl i) (xk hi);have okl:okV cl.length (cellAt cl i).l=true:=by have:=hok.1;unfold SV at this;simp at this;exact this.1
 have okr:okV cl.length (cellAt cl i).r=true:=by have:=hok.1;unfold SV at this;simp at this;exact this.2
 have uf:=hide (And.intro okl (And.intro okr hok.2));clear okl okr hok HK;have rD:=hide P2;obtain⟨bx,bs⟩:=Bl HI.out P2.2;have x1:=bx 1;simp only[List.getElem?_toArray,List.getElem?_cons_zero,List.getElem?_cons_succ] at x1;have a1:=P2.1.lF;have a2:=P2.1.Gt;have a4:=P2.1.big;obtain⟨c0,c1,c2,_⟩:=HC.out;rw[<-P2.1.old.cell (p:=⟨b,_,none⟩) hbl] at c0 c1 c2;have hb2:b<w2.heap.size:=by omega
 clear P2 bx;have hwr:IntKind.i64.wrap (deep-1)=deep-1:=ZJ (by omega) (by omega);have CL:=hide (IH.out (cellAt cl i).l (deep-1) _ _ _ (by omega) (by omega) (by omega) uf.out.1 uf.out.2.2.1 (by have:=HP.out.1;rw[Nat.pow_succ] at this;rw[List.length_append];simp only[List.length_cons,List.length_nil];have:=Nat.one_le_two_pow (n:=d);omega) (rD.out.1.news ((Fr.refl nothing w2).drew)))
 go_cut [] (fun wx=>∃ZK,Hid (SI w0 (.slice (some ⟨b,off,none⟩) cl.length hc) ((acc++ [40])++dn cl d (cellAt cl i).l) ZK wx/\SF w0 (.slice oa acc.length oc) ZK (w.alloc (.cells #[.int .i64 2,.int .i64 i,.string t] 53)) wx))
 case first=>
  go_region_law (refine xe rfl 77 Tryz.f77 (.tmp 39) #[.tmp 45,.tmp 47] #[53,3] rfl #[.pointer (some ⟨w0.heap.size+2,0,none⟩),.pointer (some ⟨w0.heap.size,0,none⟩),.pointer (some ⟨w0.heap.size+3,0,none⟩)] (by simp[Act.eval]) Tryz.func77 (by kernel_rfl) (by kernel_rfl) #[vv (cellAt cl i).l,.int .i64 (deep-1),.pointer (some ⟨w0.heap.size+2,0,none⟩),.pointer (some ⟨w0.heap.size,0,none⟩),.pointer (some ⟨w0.heap.size+3,0,none⟩)] (by simp[Act.eval]) _ (by exact CL.out) ?_;rintro e w3 ⟨rfl,ZK,DL,tO⟩;refine⟨_,rfl,?_⟩)
  all_goals
   go_wp2
   go_meet
   case rel=>exact⟨ZK,DL,(rD.out.2.trans (SF.news ((Fr.refl _ _).drew))).trans tO⟩
 case rest=>
  clear CL rD x1 a1 a2 a4 bs c0 c1 c2 hb2 w2;obtain⟨ZK,H3⟩:=hcut;have HL:=hide (HP.out.2 (cellAt cl i).l uf.out.1 uf.out.2.2.1);have HL2:=hide (HP.out.2 (cellAt cl i).r uf.out.2.1 uf.out.2.2.2);have hl3:(acc++ [40]++dn cl d (cellAt cl i).l).length+2+64*2^d<=1099511627776:=by have h1:=HP.out.1;have h2:=HL.out;have h3:=Nat.one_le_two_pow (n:=d);rw[Nat.pow_succ] at h1;simp only[List.length_append,List.length_cons,List.length_nil];omega
  generalize hA:acc++ [40]++dn cl d (cellAt cl i).l=Gv at H3 hl3;have HA:=hide hA;clear hA;have h2d:=Nat.one_le_two_pow (n:=d);generalize hpd:2^d=pd at hl3 h2d;have KF:=hide hpd;clear hpd;obtain⟨ZL,oc3,rfl⟩:=H3.out.1.shape;have YU:=H3.out.1.vL;have of3:=H3.out.1.Oa;have hB3:=H3.out.1.big;have ZM:w0.heap.size+2<wc.heap.size:=by omega
  have O3:=hide (bX H3.out.1.row (b:=w0.heap.size+2) (by omega))
  go_wp2_with (at_builtin;go_must (refine wpList_append_lies _ rfl _ _ 148 rfl (w0.heap.size+4) 5 i0 (.int .u8 0) 1 1 Tryz.underlying148 hi0 hz0 hz1 hz2 rfl (by decide) (.slice ZL Gv.length oc3) Gv.length (Gv.map ny) rfl (H3.out.1.row.alloc _) ⟨wc.heap.size,0,none⟩ 1 1 [.int .u8 32] rfl rfl (Wz _ _ rfl 32 5) (xh 32) (by decide) (by unfold maxLen;omega) (by omega) (by simp;omega) _ rfl ?_);intro g cp w1 hr1 hg1 Gu hlt1;have k1:=rP ((Fr.refl nothing wc).alloc _) hg1 ZM O3.out YU;have k2:=pK ((Fr.refl nothing wc).alloc _) hg1 ZM O3.out of3;clear YU of3)
  have P4:=xg (c:=32) H3.out.1 ((Fr.refl nothing _).alloc _) hr1 rfl hg1 Gu;obtain⟨w4,hw4⟩:∃w4,w4=w1.setCell ⟨w0.heap.size+2,0,none⟩ (.slice (some ⟨g,0,none⟩) (Gv.length+1) cp):=⟨_,rfl⟩
  rw[<-hw4] at P4⊢;clear hw4 k1 k2 hr1 hg1 Gu hlt1;have P5:=And.intro P4.1 (H3.out.2.trans P4.2);clear P4;have Sa:=hide P5;obtain⟨bx,bs⟩:=Bl HI.out P5.2;have x1:=bx 1;simp only[List.getElem?_toArray,List.getElem?_cons_zero,List.getElem?_cons_succ] at x1;have a1:=P5.1.lF;have a2:=P5.1.Gt;have a4:=P5.1.big;obtain⟨_,_,_,c3,c4,c5⟩:=HC.out;rw[<-P5.1.old.cell (p:=⟨b,_,none⟩) hbl] at c3 c4 c5;have hb4:b<w4.heap.size:=by omega
  clear P5 bx;have CL:=hide (IH.out (cellAt cl i).r (deep-1) _ _ _ (by omega) (by omega) (by omega) uf.out.2.1 uf.out.2.2.2 (by rw[List.length_append,KF.out];simp only[List.length_cons,List.length_nil];omega) (Sa.out.1.news ((Fr.refl nothing w4).drew)))
  go_cut [] (fun wx=>∃ZN,Hid (SI w0 (.slice (some ⟨b,off,none⟩) cl.length hc) ((Gv++ [32])++dn cl d (cellAt cl i).r) ZN wx/\SF w0 (.slice oa acc.length oc) ZN (w.alloc (.cells #[.int .i64 2,.int .i64 i,.string t] 53)) wx))
  case first=>
   go_region_law (refine xe rfl 77 Tryz.f77 (.tmp 52) #[.tmp 58,.tmp 60] #[53,3] rfl #[.pointer (some ⟨w0.heap.size+2,0,none⟩),.pointer (some ⟨w0.heap.size,0,none⟩),.pointer (some ⟨w0.heap.size+3,0,none⟩)] (by simp[Act.eval]) Tryz.func77 (by kernel_rfl) (by kernel_rfl) #[vv (cellAt cl i).r,.int .i64 (deep-1),.pointer (some ⟨w0.heap.size+2,0,none⟩),.pointer (some ⟨w0.heap.size,0,none⟩),.pointer (some ⟨w0.heap.size+3,0,none⟩)] (by simp[Act.eval]) _ (by exact CL.out) ?_;rintro e w3 ⟨rfl,ZN,xm,jd⟩;refine⟨_,rfl,?_⟩)
   all_goals
    go_wp2
    go_meet
    case rel=>exact⟨ZN,xm,(Sa.out.2.trans (SF.news ((Fr.refl _ _).drew))).trans jd⟩
  case rest=>
   clear CL Sa x1 a1 a2 a4 bs c3 c4 c5 hb4 w4;obtain⟨ZN,H5⟩:=hcut;have hl5:(Gv++ [32]++dn cl d (cellAt cl i).r).length+2<=1099511627776:=by have h2:=HL2.out;rw[KF.out] at h2;simp only[List.length_append,List.length_cons,List.length_nil];omega
   generalize Og:Gv++ [32]++dn cl d (cellAt cl i).r=Tj at H5 hl5;have WA:=hide Og;clear Og;obtain⟨oa5,oc5,rfl⟩:=H5.out.1.shape;have ob5:=H5.out.1.vL;have of5:=H5.out.1.Oa;have Tm:=H5.out.1.big;have ZO:w0.heap.size+2<wc.heap.size:=by omega
   have O5:=hide (bX H5.out.1.row (b:=w0.heap.size+2) (by omega))
   go_wp2_with (at_builtin;go_must (refine wpList_append_lies _ rfl _ _ 148 rfl (w0.heap.size+4) 5 i0 (.int .u8 0) 1 1 Tryz.underlying148 hi0 hz0 hz1 hz2 rfl (by decide) (.slice oa5 Tj.length oc5) Tj.length (Tj.map ny) rfl (H5.out.1.row.alloc _) ⟨wc.heap.size,0,none⟩ 1 1 [.int .u8 41] rfl rfl (Wz _ _ rfl 41 5) (xh 41) (by decide) (by unfold maxLen;omega) (by omega) (by simp;omega) _ rfl ?_);intro g cp w1 hr1 hg1 Gu hlt1;have k1:=rP ((Fr.refl nothing wc).alloc _) hg1 ZO O5.out ob5;have k2:=pK ((Fr.refl nothing wc).alloc _) hg1 ZO O5.out of5;clear ob5 of5)
   go_end0
   have P6:=xg (c:=41) H5.out.1 ((Fr.refl nothing _).alloc _) hr1 rfl hg1 Gu;refine⟨rfl,_,?_,(SF.news ((Fr.refl _ _).alloc _)).trans (H5.out.2.trans P6.2)⟩
   have e:acc++40::(dn cl d (cellAt cl i).l++32::(dn cl d (cellAt cl i).r++ [41]))=Tj++ [41]:=by rw[<-WA.out,<-HA.out];simp
   rw[e];exact P6.1
end Cl
end
section
open Go.pG
namespace Cl
theorem rQ {n:Nat} {v:Val} (h:okV n v=true):(v.k=0/\-1073741824<=v.n/\v.n<=1073741824/\v.t.toList.isEmpty=true)\/(v.k=1/\v.t.size<=60/\v.n=0)\/(v.k=2/\0<=v.n/\v.n<n/\v.t.toList.isEmpty=true):=by
 unfold okV CG at h
 by_cases h0:v.k=0
 ·rw[if_pos h0] at h
  by_cases h1:v.n< -1073741824\/1073741824<v.n
  ·rw[if_pos h1] at h;simp at h
  ·rw[if_neg h1] at h
   by_cases h2:v.t.toList.isEmpty=true
   ·left;exact⟨h0,by omega,by omega,h2⟩
   ·rw[if_neg h2] at h;simp at h
 ·rw[if_neg h0] at h
  by_cases h1:v.k=1
  ·rw[if_pos h1] at h
   by_cases h2:60<v.t.size
   ·rw[if_pos h2] at h;simp at h
   ·rw[if_neg h2] at h
    by_cases h3:v.n≠0
    ·rw[if_pos h3] at h;simp at h
    ·right;left;exact⟨h1,by omega,by omega⟩
  ·rw[if_neg h1] at h
   by_cases h2:v.k=2
   ·rw[if_pos h2] at h
    by_cases h3:v.n<0\/(n:Int)<=v.n
    ·rw[if_pos h3] at h;simp at h
    ·rw[if_neg h3] at h
     by_cases h4:v.t.toList.isEmpty=true
     ·right;right;exact⟨h2,by omega,by omega,h4⟩
     ·rw[if_neg h4] at h;simp at h
   ·rw[if_neg h2] at h;simp at h
theorem Gw {cl:List aV} {d:Nat} {v:Val} (h0:v.k=2) (hr:Ac cl.length v=true):dn cl (d+1) v=40::(dn cl d (cellAt cl v.n.toNat).l++32::(dn cl d (cellAt cl v.n.toNat).r++ [41])):=by
 rw[dn,if_neg (by omega),if_neg (by omega),if_pos hr]
theorem xu {cl:List aV} (LX:∀c∈cl,SV cl.length c=true/\WfC c):∀(d:Nat) (v:Val),okV cl.length v=true->(dn cl d v).length+3<=64*2^d
 |0,v,hv=>by
  unfold dn;rcases rQ hv with⟨h0,h1,h2,_⟩|⟨h0,h1,_⟩|⟨h0,_⟩
  ·rw[if_pos h0];have:=Lib.itoa_length_le v.n (by omega) (by omega);omega
  ·rw[if_neg (by omega),if_pos h0];have:v.t.data.toList.length=v.t.size:=by rw[Array.length_toList];rfl
   omega
  ·rw[if_neg (by omega),if_neg (by omega)];simp
 |d+1,v,hv=>by
  have hp:=Nat.one_le_two_pow (n:=d);unfold dn;rw[Nat.pow_succ];rcases rQ hv with⟨h0,h1,h2,_⟩|⟨h0,h1,_⟩|⟨h0,h1,h2,_⟩
  ·rw[if_pos h0];have:=Lib.itoa_length_le v.n (by omega) (by omega);omega
  ·rw[if_neg (by omega),if_pos h0];have:v.t.data.toList.length=v.t.size:=by rw[Array.length_toList];rfl
   omega
  ·have hr:Ac cl.length v=true:=rM.2 ⟨h0,h1,h2⟩;have hi:v.n.toNat<cl.length:=by omega
   have hok:=(LX _ (xk hi)).1;unfold SV at hok;simp only[Bool.and_eq_true] at hok;have e1:=xu LX d _ hok.1;have e2:=xu LX d _ hok.2;rw[if_neg (by omega),if_neg (by omega),if_pos hr];simp only[List.length_cons,List.length_append,List.length_nil];omega
theorem Oh (w0:World) (cl:List aV) (hv:Value) (hs:Sl bZ 6 w0 hv cl) (ht:rC w0) (LX:∀c∈cl,SV cl.length c=true/\WfC c):∀d,KE w0 cl hv d:=by
 intro d
 induction d with
 |zero=>
  intro v deep acc ov w hd h5 hlo hok hwf hb hI;obtain⟨oa,oc,rfl⟩:=hI.shape;rcases rQ hok with⟨h0,h1,h2,_⟩|⟨h0,h1,_⟩|⟨h0,_⟩
  ·rw[show dn cl 0 v=Lib.itoa v.n by unfold dn;rw[if_pos h0]];exact KD w0 hv acc oa oc w v deep hI ht h0 (by omega) (by omega) (by omega)
  ·rw[show dn cl 0 v=v.t.data.toList by unfold dn;rw[if_neg (by omega),if_pos h0]];exact Ed w0 hv acc oa oc w v deep hI h0 (by omega)
  ·rw[show dn cl 0 v=[46,46] by unfold dn;rw[if_neg (by omega),if_neg (by omega)]];exact Od w0 hv acc oa oc w v deep hI h0 (by omega) (by omega)
 |succ d ih=>
  intro v deep acc ov w hd h5 hlo hok hwf hb hI;obtain⟨oa,oc,rfl⟩:=hI.shape;have hp:=Nat.one_le_two_pow (n:=d);have hb':=hb;rw[Nat.pow_succ] at hb;rcases rQ hok with⟨h0,h1,h2,_⟩|⟨h0,h1,_⟩|⟨h0,h1,h2,_⟩
  ·rw[show dn cl (d+1) v=Lib.itoa v.n by unfold dn;rw[if_pos h0]];exact KD w0 hv acc oa oc w v deep hI ht h0 (by omega) (by omega) (by omega)
  ·rw[show dn cl (d+1) v=v.t.data.toList by unfold dn;rw[if_neg (by omega),if_pos h0]];exact Ed w0 hv acc oa oc w v deep hI h0 (by omega)
  ·have hr:Ac cl.length v=true:=rM.2 ⟨h0,h1,h2⟩;obtain⟨i,hi⟩:=Int.eq_ofNat_of_zero_le h1;rw[show dn cl (d+1) v=40::(dn cl d (cellAt cl i).l++32::(dn cl d (cellAt cl i).r++ [41])) by rw[Gw h0 hr,show v.n.toNat=i by omega]];obtain⟨vk,vn,vt⟩:=v;simp only at h0 hi h2;subst h0 hi;obtain⟨ha,hc,rfl,_,_⟩:=id hs;exact Oe w0 cl ha hc d ih hs LX acc oa oc w i vt deep hd h5 (by omega) hb' (fun v hv _=>xu LX d v hv) hI
def bytesOf (l:List UInt8):Value:=.string ⟨l.toArray⟩
theorem LY {deep:Int} (h:deep<=5):64*2^deep.toNat<=1099511627776:=by
 have h1:deep.toNat<=5:=by omega
 have h2:2^deep.toNat<=2^5:=Nat.pow_le_pow_right (by omega) h1;omega
theorem Gx (w:World) (hv:Value) (cs:Array Value):SI w hv [] (.slice none 0 0) ((((w.alloc (.cells #[hv] 27)).alloc (.cells cs 53)).alloc (.cells #[.slice none 0 0] 148)).alloc (.cells #[.func (.func 77) #[] #[.pointer (some ⟨w.heap.size+1+1,0,none⟩),.pointer (some ⟨w.heap.size,0,none⟩),.pointer (some ⟨w.heap.size+1+1+1,0,none⟩)]] 149)):=by
 refine{old:=((((Below.refl _ w).alloc (Nat.le_refl _) _).alloc (by simp) _).alloc (by simp;omega) _).alloc (by simp;omega) _,big:=by simp,lF:=?_,vL:=?_,Oa:=?_,Gt:=?_,row:=World.ownsRow_nil _ _ _ _}
 ·rw[World.cell?_alloc_past _ _ _ (by simp;omega),World.cell?_alloc_past _ _ _ (by simp;omega),World.cell?_alloc_past _ _ _ (by simp),World.cell?_alloc_new];rfl
 ·rw[World.cell?_alloc_past _ _ _ (by simp),World.cell?_alloc_at _ _ _ _ (by simp)];rfl
 ·rw[World.frozen?_alloc_past _ _ _ (by simp),World.frozen?_alloc_at _ _ _ _ (by simp)]
 ·rw[World.cell?_alloc_at _ _ _ _ (by simp)];rfl
theorem Gy (l:List UInt8):strOfNums (l.map fun b=>(b.toNat:Int))=⟨l.toArray⟩:=by
 have:(l.map fun b=>(b.toNat:Int)).map (fun n=>UInt8.ofNat n.toNat)=l:=by
  rw[List.map_map]
  conv=>rhs;rw[<-List.map_id l]
  refine List.map_congr_left fun b _=>?_
  simp
 unfold strOfNums;rw[this]
theorem Oi {w:World} {base n:Nat} {oa:Option Addr} {oc:Nat} {acc:List UInt8} (hr:w.ownsRow base 5 1 (.slice oa n oc) acc.length (acc.map ny)):(convert 148 9 (.slice oa n oc)).run Tryz.prog w=.ok (bytesOf acc) w:=by
 rcases hr.2 with⟨he,h0⟩|⟨g,c,cur,he,hb,hg,hnc,hcm,hcs,htk⟩
 ·injection he with h1 h2 h3
  subst h1 h2 h3;have:acc=[]:=List.length_eq_zero_iff.1 h0;subst this;rw[run_convert_bytes_nil w 148 5 Tryz.underlying148 Tryz.underlying5 _ _ 9 Tryz.underlying9];rfl
 ·injection he with h1 h2 h3
  subst h1 h2 h3;rw[run_convert_bytes_arg w 148 5 Tryz.underlying148 Tryz.underlying5 g 0 acc.length oc (acc.map fun b=>(b.toNat:Int)) (by simp) (fun i hi=>?_) 9 Tryz.underlying9,Gy]
  ·rfl
  ·rw[Nat.zero_add,hr.cellAt i (by omega)];simp[List.getElem?_eq_getElem hi,ny]
set_option maxHeartbeats 400000 in
theorem Oj (w:World) (cl:List aV) (hv:Value) (v:Val) (deep:Int) (hs:Sl bZ 6 w hv cl) (ht:rC w) (LX:∀c∈cl,SV cl.length c=true/\WfC c) (hok:okV cl.length v=true) (hwf:wX v) (hd:deep<=5) (hlo:-9223372036854775808<=deep):
 Calls Tryz.prog 64 #[hv,vv v,.int .i64 deep] w fun e w'=>e=.returned (bytesOf (dn cl deep.toNat v))/\Below w.heap.size w w':=by
 have hall:=hide (Oh w cl hv hs ht LX deep.toNat);obtain⟨ha,hc,rfl,_,q⟩:=id hs;clear q;have HX:=hide (And.intro hs (And.intro ht (And.intro LX (And.intro hok hwf))));clear hs ht LX hok hwf
 go_enter Tryz.func64,Tryz.ntmps64
 go_wp2_with fail
 refine(hall.out v deep [] (.slice none 0 0) _ rfl hd hlo HX.out.2.2.2.1 HX.out.2.2.2.2 ?_ (Gx _ _ _)).mono ?_
 ·simp;exact LY hd
 rintro e w1 ⟨rfl,ov,hI,hF⟩;rw[List.nil_append] at hI;obtain⟨oa,oc,rfl⟩:=hI.shape;have ob:=hI.vL;have hcv:=Oi hI.row;have HI:=hide hI;clear hI hF
 go_wp2
 go_ret
 exact⟨rfl,HI.out.old⟩
end Cl
end
end Go.Proofs.YtbcadjgpcfmkfaaGreatDoor
