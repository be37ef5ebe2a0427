/- Orders; Tk; Pure. -/
import Derived.OrdersHeld
import Derived.RegionTactic
import Derived.WalkKit
import Derived.Deep.RegionHeld3
import Derived.Lib.ItoaNum
import Derived.Shelf.Strconv.AtoiAll
set_option maxHeartbeats 0
set_option maxRecDepth 100000
set_option linter.unusedSimpArgs false
namespace Go.Proofs.YtbcadjgpcfmkfaaGreatDoor
open Go Go.RowKit
section
section
variable {P : Program} {ops : Array Oper} {Q : Exit → Act → World → Prop} {md : Region.Mode} {S : World → Prop} {T : List Nat}
def Before (T:List Nat) (listed:Array Bool):Prop:=∀k∈T,listed.getD k true=false
def gu (P:Program) (md:Region.Mode) (ops:Array Oper) (Q:Exit->Act->World->Prop) (S:World->Prop) (T:List Nat):Nat->Array Bool->Act->World->Prop
 |0,listed,a,w=>Region.ready md ops listed=[]/\Q .normal a w
 |n+1,listed,a,w=>(Region.ready md ops listed=[]->Q .normal a w)/\
  ∀i∈Region.ready md ops listed,wpOp P ops Q i (fun a' w'=>(Before T (listed.setIfInBounds i true)->S w')/\gu P md ops Q S T n (listed.setIfInBounds i true) a' w') a w
theorem wJ:∀(n:Nat) (listed:Array Bool) (a:Act) (w:World),gu P md ops Q S T n listed a w->wpAny P md ops Q n listed a w
 |0,_,_,_,h=>h
 |n+1,_,_,_,h=>⟨h.1,fun i hi=>wpOp_mono (fun a' w' h'=>wJ n _ a' w' h'.2) (h.2 i hi)⟩
theorem qg:∀(n:Nat) (listed:Array Bool) (a:Act) (w:World),¬Before T listed->wpAny P md ops Q n listed a w->gu P md ops Q S T n listed a w
 |0,_,_,_,_,h=>h
 |n+1,listed,_,_,hb,h=>by
  have hb':∀i,¬Before T (listed.setIfInBounds i true):=fun i hB=>hb fun k hk=>by
   have:=hB k hk
   by_cases hik:i=k
   ·subst hik;rcases Nat.lt_or_ge i listed.size with h'|h'
    ·simp[Array.getD_eq_getD_getElem?,h'] at this
    ·simp[Array.getD_eq_getD_getElem?,h'] at this
   ·rw[getD_set_ne true hik] at this;exact this
  exact⟨h.1,fun i hi=>wpOp_mono (fun a' w' h'=>⟨fun hB=>absurd hB (hb' i),qg n _ a' w' (hb' i) h'⟩) (h.2 i hi)⟩
theorem Cx {i:Nat} {oi:Oper} {v:Value} (hi:ops[i]?=some oi) (hsel:∀(j:Nat) (o:Oper) cs b,ops[j]?=some o->o.op≠ .select cs b)
 (hQ:∀c a w,Q (.panic c) (a.put oi.dst v) w->Q (.panic c) a w) (hT:∀k∈T,∃ok,ops[k]?=some ok/\∃e∈ok.after,Region.binds md e=true/\e.on=i):
 ∀(n:Nat) (listed:Array Bool) (a:Act) (w:World),
  (∀j oj,ops[j]?=some oj->j≠i->listed.getD j true=false->(∀e∈oj.after,Region.binds md e=true->e.on≠i)->oi.apart ops oj=true)->
  i∈Region.ready md ops listed->YieldsIf P ops S oi v a->S w->Before T listed->
  gu P md ops Q S T n (listed.setIfInBounds i true) (a.put oi.dst v) w->gu P md ops Q S T (n+1) listed a w:=by
 intro n;have waits:∀(listed:Array Bool) (j:Nat) (oj:Oper),i∈Region.ready md ops listed->ops[j]?=some oj->j∈Region.ready md ops listed->∀e∈oj.after,Region.binds md e=true->e.on≠i:=by
  intro listed j oj hr hoj hj e he hb heq;obtain⟨_,oj',ZE,hall⟩:=mem_ready.1 hj;rw[hoj] at ZE;cases ZE
  have h1:=hall e he hb;have h0:=(mem_ready.1 hr).1;rw[heq] at h1;rcases Nat.lt_or_ge i listed.size with h'|h'
  ·simp[h'] at h0 h1;rw[h0] at h1;cases h1
  ·simp[Array.getElem?_eq_none h'] at h1
 induction n with
 |zero=>
  intro listed a w _ hr hy hS _ H;refine⟨fun h=>(by rw[h] at hr;cases hr),fun j hj=>?_⟩
  by_cases hji:j=i
  ·subst hji;exact hy.wpOp hi hS ⟨fun _=>hS,H⟩
  ·have:=ready_mono hj hji;rw[H.1] at this;cases this
 |succ n ih=>
  intro listed a w hfree hr hy hS hB H;refine⟨fun h=>(by rw[h] at hr;cases hr),fun j hj=>?_⟩
  by_cases hji:j=i
  ·subst hji;exact hy.wpOp hi hS ⟨fun _=>hS,H⟩
  ·have h1:=H.2 j (ready_mono hj hji);obtain⟨hjun,oj,hoj,_⟩:=mem_ready.1 hj;have hnot:=waits listed j oj hr hoj hj;have h2:=wpOp_putIf hoj (hfree j oj hoj hji hjun hnot) (fun cs b=>hsel i oi cs b hi) (fun cs b=>hsel j oj cs b hoj) hQ hy h1;have hjT:∀k∈T,j≠k:=fun k hk e=>by
    subst e;obtain⟨ok,hok,e,he,hb,hon⟩:=hT j hk;rw[hoj] at hok;cases hok
    exact hnot e he hb hon
   have hiT:∀k∈T,i≠k:=fun k hk e=>by
    subst e;obtain⟨ok,hok,e,he,hb,hon⟩:=hT i hk;exact waits listed i ok hr hok hr e he hb hon
   have hBj:Before T (listed.setIfInBounds j true):=fun k hk=>by rw[getD_set_ne true (hjT k hk)];exact hB k hk
   have ZF:Before T ((listed.setIfInBounds i true).setIfInBounds j true):=fun k hk=>by
    rw[getD_set_ne true (hjT k hk),getD_set_ne true (hiT k hk)];exact hB k hk
   refine wpOp_mono (fun a' w' h3=>⟨fun _=>h3.2.1 ZF,ih (listed.setIfInBounds j true) a' w' ?_ (ready_mono hr (Ne.symm hji)) h3.1 (h3.2.1 ZF) hBj ?_⟩) h2
   ·intro k ok hk hki hun hno;refine hfree k ok hk hki ?_ hno
    by_cases hjk:j=k
    ·subst hjk;exact hjun
    ·rw[getD_set_ne true hjk] at hun;exact hun
   ·rw[Array.setIfInBounds_comm _ _ hji];exact h3.2.2
def NK (md:Region.Mode) (ops:Array Oper) (T:List Nat) (i:Nat):Bool:=
 T.all fun k=>match ops[k]? with
  |some ok=>ok.after.any fun e=>Region.binds md e&&e.on==i
  |none=>false
def kP (T:List Nat) (listed:Array Bool):Bool:=T.all fun k=> !(listed.getD k true)
theorem LF {listed:Array Bool} (h:kP T listed=true):Before T listed:=fun k hk=>by
 have:=List.all_eq_true.1 h k hk;simpa using this
theorem wK {listed:Array Bool} (h:kP T listed=false):¬Before T listed:=fun hB=>by
 have:kP T listed=true:=List.all_eq_true.2 fun k hk=>by simp[hB k hk]
 rw[this] at h;cases h
theorem DZ {i:Nat} {oi:Oper} {v:Value} {n:Nat} {listed:Array Bool} {a:Act} {w:World} (hi:ops[i]?=some oi)
 (hs:Region.noSelect ops=true) (hf:Region.free md ops listed i=true) (hr:(Region.ready md ops listed).contains i=true) (hw:NK md ops T i=true) (hb:kP T listed=true)
 (hQ:∀c a w,Q (.panic c) (a.put oi.dst v) w->Q (.panic c) a w) (hy:YieldsIf P ops S oi v a) (hS:S w)
 (h:gu P md ops Q S T n (listed.setIfInBounds i true) (a.put oi.dst v) w):gu P md ops Q S T (n+1) listed a w:=by
 refine Cx hi (Region.noSelect_spec hs) hQ (fun k hk=>?_) n listed a w (Region.free_spec hi hf) (by simpa using hr) hy hS (LF hb) h
 have h1:=List.all_eq_true.1 hw k hk;cases hk2:ops[k]? with
 |none=>rw[hk2] at h1;cases h1
 |some ok=>
  rw[hk2] at h1;simp only[Array.any_eq_true,Bool.and_eq_true,beq_iff_eq] at h1;obtain⟨q,hq,h2,h3⟩:=h1;exact⟨ok,rfl,_,Array.getElem_mem hq,h2,h3⟩
def aZ (P:Program) (md:Region.Mode) (ops:Array Oper) (Q:Exit->Act->World->Prop) (S:World->Prop) (T:List Nat) (n:Nat) (listed:Array Bool) (a:Act) (w:World) (rs:List Nat):Prop:=
 ∀i∈rs,wpOp P ops Q i (fun a' w'=>(Before T (listed.setIfInBounds i true)->S w')/\gu P md ops Q S T n (listed.setIfInBounds i true) a' w') a w
theorem aZ.nil {n:Nat} {listed:Array Bool} {a:Act} {w:World}:aZ P md ops Q S T n listed a w []:=fun _ h=>by cases h
theorem aZ.cons {n:Nat} {listed:Array Bool} {a:Act} {w:World} {i:Nat} {o:Oper} {rs:List Nat} (ho:ops[i]?=some o)
 (h:∀K':Act->World->Prop,Hid (∀a w,S w->gu P md ops Q S T n (listed.setIfInBounds i true) a w->K' a w)->if Region.wanted o (yielded ops a.tmps)=true then Oper.wp P o a w K' Q else K' (a.put o.dst undef) w)
 (hs:aZ P md ops Q S T n listed a w rs):aZ P md ops Q S T n listed a w (i::rs):=fun j hj=>by
 rcases List.mem_cons.1 hj with rfl|hj
 ·exact wpOp_step ho (fun K' hK=>h K' (fun a w hS hW=>hK a w ⟨fun _=>hS,hW⟩))
 ·exact hs j hj
theorem aZ.last {n:Nat} {listed:Array Bool} {a:Act} {w:World} {i:Nat} {o:Oper} {rs:List Nat} (ho:ops[i]?=some o) (hb:kP T (listed.setIfInBounds i true)=false)
 (h:∀K':Act->World->Prop,Hid (∀a w,wpAny P md ops Q n (listed.setIfInBounds i true) a w->K' a w)->if Region.wanted o (yielded ops a.tmps)=true then Oper.wp P o a w K' Q else K' (a.put o.dst undef) w)
 (hs:aZ P md ops Q S T n listed a w rs):aZ P md ops Q S T n listed a w (i::rs):=fun j hj=>by
 rcases List.mem_cons.1 hj with rfl|hj
 ·exact wpOp_step ho (fun K' hK=>h K' (fun a w hW=>hK a w ⟨fun hB=>absurd hB (wK hb),qg _ _ _ _ (wK hb) hW⟩))
 ·exact hs j hj
theorem mH {rs:List Nat} {n:Nat} {listed:Array Bool} {a:Act} {w:World} (hr:Region.ready md ops listed=rs) (hne:rs≠ [])
 (h:aZ P md ops Q S T n listed a w rs):gu P md ops Q S T (n+1) listed a w:=
 ⟨fun h0=>absurd (hr▸h0) hne,hr▸h⟩
theorem aS {id:Nat} {a:Act} {w:World} (hm:P.follows .mixedOrders=true) (T:List Nat) (hS:S w.drew)
 (h:S w.drew->gu P .any ops Q S T ops.size (Array.replicate ops.size false) a w.drew):(Code.region id ops true).wp P Q a w:=
 wp_region_any hm (wJ _ _ _ _ (h hS))
end
theorem tQ {o:Oper} {a:Act} {f:FuncId} {xs:Array Operand} {ats:Array TypeId} (ho:o.op=.call {callee:=.value (.func f),args:=xs,argTypes:=ats}):execOp a.eval o=callFunc f (#[]++xs.map a.eval++ #[]):=by
 obtain⟨dst,op,ty,pos,after,guard⟩:=o;simp only at ho;subst ho;rfl
theorem aF {P:Program} {w:World} {ops:Array Oper} {o:Oper} {a:Act} {K:Act->World->Prop} {Q:Exit->Act->World->Prop} {E:Prop} (hgd:Region.wanted o (yielded ops a.tmps)=true) (f:FuncId) (fn:Func) (xs:Array Operand) (ats:Array TypeId)
 (ho:o.op=.call {callee:=.value (.func f),args:=xs,argTypes:=ats}) (hf:P.funcs[f]?=some fn) (hname:(fn.name== "runtime.NumGoroutine")=false) (hbody:fn.body.isNone=false) (args:Array Value) (hx:xs.map a.eval=args)
 (R:Ending->World->Prop) (hc:Calls P f args w R) (h:∀e w',R e w'->∃v,e=.returned v/\K (a.put o.dst v) w'):
 if Region.wanted o (yielded ops a.tmps)=true then Oper.wp P o a w K Q else E:=by
 rw[if_pos hgd];unfold Oper.wp;rw[tQ ho];have hr:(callFunc f (#[]++xs.map a.eval++ #[])).run P w=.ok (.enter f args) w:=by
  have h1:fn.name≠ "runtime.NumGoroutine":=by simpa using hname
  have h2:fn.body≠none:=by intro e;rw[e] at hbody;cases hbody
  simp[callFunc,hf,h1,h2,hx,run_program]
 rw[hr,Oper.upon_enter];refine hc.mono fun e w' hR=>?_
 obtain⟨v,rfl,hk⟩:=h e w' hR;exact hk
end
section
theorem sA {α:Type} (l:List α) (i:Nat) (a:α):l.toArray.setIfInBounds i a=(l.set i a).toArray:=List.setIfInBounds_toArray l i a
theorem sZ {α:Type} {x:α} {xs:List α} {a:α}:(x::xs).set 0 a=a::xs:=List.set_cons_zero
theorem sS {α:Type} {x:α} {xs:List α} {i:Nat} {a:α}:(x::xs).set (i+1) a=x::xs.set i a:=List.set_cons_succ
section
variable {P : Program} {ops : Array Oper} {Q : Exit → Act → World → Prop} {md : Region.Mode} {S : World → Prop} {T : List Nat} {v : Value} {n : Nat} {listed l' : Array Bool} {a a' : Act} {w : World}
theorem tk {oi:Oper} (i:Nat) (h:wpAnyH P md ops Q S n l' a' w)
 (hi:ops[i]?=some oi:=by(try simp only[List.getElem?_toArray,List.getElem?_cons_succ,List.getElem?_cons_zero]);try rfl) (hs:Region.noSelect ops=true:=by kernel_rfl) (hf:Region.free md ops listed i=true:=by kernel_rfl) (hr:(Region.ready md ops listed).contains i=true:=by kernel_rfl)
 (hQ:∀c a w,Q (.panic c) (a.put oi.dst v) w->Q (.panic c) a w:=by exact fun _ _ _ h=>h) (hg:Region.wanted oi (yielded ops a.tmps)=true:=by rfl)
 (hy:∀w,S w->(execOp a.eval oi).run P w=.ok (.value v) w:=by intro w hSw;(try dsimp only at hSw);go_simp;try with_reducible rfl)
 (hS:S w:=by assumption)
 (ha:a.put oi.dst v=a':=by(try simp only[Act.put,List.setIfInBounds_toArray,List.set_cons_zero,List.set_cons_succ]);try rfl)
 (hl:listed.setIfInBounds i true=l':=by(try simp only[List.setIfInBounds_toArray,List.set_cons_zero,List.set_cons_succ]);try rfl):wpAnyH P md ops Q S (n+1) listed a w:=by
 subst ha hl;exact wpAnyH_take hi hs hf hr hQ (Or.inl ⟨hg,hy⟩) hS h
theorem dW {oi:Oper} (i:Nat) (h:wpAnyH P md ops Q S n l' a' w)
 (hi:ops[i]?=some oi:=by(try simp only[List.getElem?_toArray,List.getElem?_cons_succ,List.getElem?_cons_zero]);try rfl) (hs:Region.noSelect ops=true:=by kernel_rfl) (hf:Region.free md ops listed i=true:=by kernel_rfl) (hr:(Region.ready md ops listed).contains i=true:=by kernel_rfl)
 (hQ:∀c a w,Q (.panic c) (a.put oi.dst undef) w->Q (.panic c) a w:=by exact fun _ _ _ h=>h) (hg:Region.wanted oi (yielded ops a.tmps)=false:=by rfl)
 (hS:S w:=by assumption)
 (ha:a.put oi.dst undef=a':=by(try simp only[Act.put,List.setIfInBounds_toArray,List.set_cons_zero,List.set_cons_succ]);try rfl)
 (hl:listed.setIfInBounds i true=l':=by(try simp only[List.setIfInBounds_toArray,List.set_cons_zero,List.set_cons_succ]);try rfl):wpAnyH P md ops Q S (n+1) listed a w:=by
 subst ha hl;exact wpAnyH_take hi hs hf hr hQ (Or.inr ⟨hg,rfl⟩) hS h
theorem bM {oi:Oper} (i:Nat) (h:gu P md ops Q S T n l' a' w)
 (hi:ops[i]?=some oi:=by(try simp only[List.getElem?_toArray,List.getElem?_cons_succ,List.getElem?_cons_zero]);try rfl) (hs:Region.noSelect ops=true:=by kernel_rfl) (hf:Region.free md ops listed i=true:=by kernel_rfl) (hr:(Region.ready md ops listed).contains i=true:=by kernel_rfl) (hw:NK md ops T i=true:=by kernel_rfl) (hb:kP T listed=true:=by kernel_rfl)
 (hQ:∀c a w,Q (.panic c) (a.put oi.dst v) w->Q (.panic c) a w:=by exact fun _ _ _ h=>h) (hg:Region.wanted oi (yielded ops a.tmps)=true:=by rfl)
 (hy:∀w,S w->(execOp a.eval oi).run P w=.ok (.value v) w:=by intro w hSw;(try dsimp only at hSw);go_simp;try with_reducible rfl)
 (hS:S w:=by assumption)
 (ha:a.put oi.dst v=a':=by(try simp only[Act.put,List.setIfInBounds_toArray,List.set_cons_zero,List.set_cons_succ]);try rfl)
 (hl:listed.setIfInBounds i true=l':=by(try simp only[List.setIfInBounds_toArray,List.set_cons_zero,List.set_cons_succ]);try rfl):gu P md ops Q S T (n+1) listed a w:=by
 subst ha hl;exact DZ hi hs hf hr hw hb hQ (Or.inl ⟨hg,hy⟩) hS h
theorem rH (rs:List Nat) (h:AllReadyH P md ops Q S n listed a w rs) (hr:Region.ready md ops listed=rs:=by kernel_rfl) (hne:rs≠ []:=by simp):wpAnyH P md ops Q S (n+1) listed a w:=wpAnyH_ready hr hne h
theorem rT (rs:List Nat) (h:aZ P md ops Q S T n listed a w rs) (hr:Region.ready md ops listed=rs:=by kernel_rfl) (hne:rs≠ []:=by simp):gu P md ops Q S T (n+1) listed a w:=mH hr hne h
theorem cH {i:Nat} {o:Oper} {rs:List Nat}
 (h:∀K':Act->World->Prop,Shut (∀a w,S w->(S w->wpAnyH P md ops Q S n (listed.setIfInBounds i true) a w)->K' a w)->if Region.wanted o (yielded ops a.tmps)=true then Oper.wp P o a w K' Q else K' (a.put o.dst undef) w)
 (hs:AllReadyH P md ops Q S n listed a w rs) (ho:ops[i]?=some o:=by(try simp only[List.getElem?_toArray,List.getElem?_cons_succ,List.getElem?_cons_zero]);try rfl):AllReadyH P md ops Q S n listed a w (i::rs):=AllReadyH.cons ho h hs
theorem cT {i:Nat} {o:Oper} {rs:List Nat}
 (h:∀K':Act->World->Prop,Hid (∀a w,S w->gu P md ops Q S T n (listed.setIfInBounds i true) a w->K' a w)->if Region.wanted o (yielded ops a.tmps)=true then Oper.wp P o a w K' Q else K' (a.put o.dst undef) w)
 (hs:aZ P md ops Q S T n listed a w rs) (ho:ops[i]?=some o:=by(try simp only[List.getElem?_toArray,List.getElem?_cons_succ,List.getElem?_cons_zero]);try rfl):aZ P md ops Q S T n listed a w (i::rs):=aZ.cons ho h hs
theorem lT {i:Nat} {o:Oper} {rs:List Nat}
 (h:∀K':Act->World->Prop,Hid (∀a w,wpAny P md ops Q n (listed.setIfInBounds i true) a w->K' a w)->if Region.wanted o (yielded ops a.tmps)=true then Oper.wp P o a w K' Q else K' (a.put o.dst undef) w)
 (hs:aZ P md ops Q S T n listed a w rs) (ho:ops[i]?=some o:=by(try simp only[List.getElem?_toArray,List.getElem?_cons_succ,List.getElem?_cons_zero]);try rfl) (hb:kP T (listed.setIfInBounds i true)=false:=by kernel_rfl):aZ P md ops Q S T n listed a w (i::rs):=aZ.last ho hb h hs
theorem iP (i:Nat) {o:Oper}
 (h:∀K':Act->World->Prop,Shut (∀a w,S w->(S w->wpAnyH P md ops Q S n (listed.setIfInBounds i true) a w)->K' a w)->if Region.wanted o (yielded ops a.tmps)=true then Oper.wp P o a w K' Q else K' (a.put o.dst undef) w)
 (ho:ops[i]?=some o:=by(try simp only[List.getElem?_toArray,List.getElem?_cons_succ,List.getElem?_cons_zero]);try rfl) (hr:Region.ready md ops listed=[i]:=by kernel_rfl):wpAnyH P md ops Q S (n+1) listed a w:=wpAnyH_ready hr (by simp) (AllReadyH.cons ho h AllReadyH.nil)
theorem jN (i:Nat) {o:Oper}
 (h:∀K':Act->World->Prop,Hid (∀a w,S w->gu P md ops Q S T n (listed.setIfInBounds i true) a w->K' a w)->if Region.wanted o (yielded ops a.tmps)=true then Oper.wp P o a w K' Q else K' (a.put o.dst undef) w)
 (ho:ops[i]?=some o:=by(try simp only[List.getElem?_toArray,List.getElem?_cons_succ,List.getElem?_cons_zero]);try rfl) (hr:Region.ready md ops listed=[i]:=by kernel_rfl):gu P md ops Q S T (n+1) listed a w:=mH hr (by simp) (aZ.cons ho h aZ.nil)
theorem Al (i:Nat) {o:Oper}
 (h:∀K':Act->World->Prop,Hid (∀a w,wpAny P md ops Q n (listed.setIfInBounds i true) a w->K' a w)->if Region.wanted o (yielded ops a.tmps)=true then Oper.wp P o a w K' Q else K' (a.put o.dst undef) w)
 (ho:ops[i]?=some o:=by(try simp only[List.getElem?_toArray,List.getElem?_cons_succ,List.getElem?_cons_zero]);try rfl) (hr:Region.ready md ops listed=[i]:=by kernel_rfl) (hb:kP T (listed.setIfInBounds i true)=false:=by kernel_rfl):gu P md ops Q S T (n+1) listed a w:=mH hr (by simp) (aZ.last ho hb h aZ.nil)
end
end
section
abbrev Bs:=List UInt8
inductive Ex where
 |mk (k n:Int) (t:Bs) (a:List Ex)
inductive St where
 |mk (k:Int) (t:Bs) (a:List Ex) (x y:List St)
structure Fn where
 t:Bs
 p:List Bs
 b:List St
structure Rd (α:Type) where
 v:α
 l:Bs
 z:Int
abbrev Reader (α:Type):=Bs->Int->Rd α
def blank (c:UInt8):Bool:=c==32||c==10
def ends (c:UInt8):Bool:=c==32||c==10||c==40||c==41||c==39
def skip (l:Bs):Bs:=l.dropWhile blank
def tT (c:UInt8):Bool:= !ends c
def Gn (c:UInt8):Bool:= !(c==39)
def letter (c:UInt8):Bool:=decide (97<=c.toNat)&&decide (c.toNat<=122)
def lM (c:UInt8):Bool:=decide (32<=c.toNat)&&decide (c.toNat<=126)&&decide (c.toNat≠39)
def taken:List Bs:=[[108,101,116],[115,101,116],[105,102],[119,104,105,108,101],[115,97,121],[114,101,116,117,114,110],[112,117,116,108],[112,117,116,114],[100,111],[99,101,108,108],[108,101,102,116],[114,105,103,104,116],[97,115,107],[104,101,114,101],[103,111]]
def isName (w:Bs):Bool:= !(taken.contains w)&&w.all letter&&decide (0<w.length)&&decide (w.length<9)
def isWord (w:Bs):Bool:=w.all lM&&decide (w.length<13)
def bad (z e:Int):Int:=if z=0 then e else z
def bS:Bs->UInt8
 |[]=>0
 |c::_=>if c=0 then 1 else c
def must (c:UInt8):Reader Unit:=fun l z=>
 match skip l with
 |[]=>⟨(),[],bad z 8⟩
 |d::t=>if d=c then⟨(),t,z⟩ else⟨(),d::t,bad z 2⟩
def nP (m w:Bs) (z:Int):Int:=if w.isEmpty then(if m.isEmpty then bad z 8 else bad z 2) else z
def word:Reader Bs:=fun l z=>⟨(skip l).takeWhile tT,(skip l).dropWhile tT,nP (skip l) ((skip l).takeWhile tT) z⟩
def name:Reader Bs:=fun l z=>⟨(word l z).v,(word l z).l,if isName (word l z).v then(word l z).z else bad (word l z).z 7⟩
def aB {α:Type} (one:Reader α):Nat->Reader (List α)
 |0=>fun l z=>⟨[],l,z⟩
 |n+1=>fun l z=>
  if z=0 then
   if(skip l).head?=some 41 then⟨[],(skip l).tail,z⟩
   else
    let r:=one (skip l) z
    let q:=aB one n r.l r.z
    ⟨r.v::q.v,q.l,q.z⟩
  else⟨[],(must 41 l z).l,(must 41 l z).z⟩
def times {α:Type} (one:Reader α):Nat->Reader (List α)
 |0=>fun l z=>⟨[],l,z⟩
 |n+1=>fun l z=>
  let r:=one l z
  let q:=times one n r.l r.z
  ⟨r.v::q.v,q.l,q.z⟩
def numOf (w:Bs):Option Int:=
 match Lib.atoiAll w with
 |.ok n=>if Lib.itoa n=w then some n else none
 |_=>none
def wN (n:Int):Bool:=decide (-1073741824<=n)&&decide (n<=1073741824)
def ZG:Ex:=.mk 0 0 [] []
def kQ (w:Bs):Ex:=
 match numOf w with
 |some n=> .mk 1 n [] []
 |none=> .mk 3 0 w []
def eu (w:Bs) (z:Int):Int:=
 match numOf w with
 |some n=>if wN n then z else bad z 3
 |none=>if isName w then z else bad z 7
def fA (w:Bs):Int×Int×Option Nat:=
 if w=[43] then(4,1,some 2) else if w=[45] then(4,2,some 2) else if w=[42] then(4,3,some 2) else if w=[60] then(4,4,some 2) else if w=[61] then(4,5,some 2)
 else if w=[99,101,108,108] then(5,0,some 2) else if w=[108,101,102,116] then(6,0,some 1) else if w=[114,105,103,104,116] then(7,0,some 1) else if w=[97,115,107] then(8,0,some 1)
 else if w=[104,101,114,101] then(9,0,some 0) else if w=[103,111] then(10,0,some 1) else(11,0,none)
def Ky (w:Bs) (xs:List Ex):Ex:=.mk (fA w).1 (fA w).2.1 (if(fA w).2.2=none then w else[]) xs
def j5 (w:Bs) (z:Int):Int:=if(fA w).2.2=none/\isName w=false then bad z 7 else z
def fI (w:Bs) (n:Nat):Bool:=
 match (fA w).2.2 with
 |some k=>decide (n≠k)
 |none=>decide (4<n)
def quoted (t:Bs) (z:Int):Rd Ex:=
 match t.dropWhile Gn with
 |[]=>⟨.mk 2 0 [] [],t,bad z 8⟩
 |_::r=>⟨.mk 2 0 (t.takeWhile Gn) [],r,if isWord (t.takeWhile Gn) then z else bad z 2⟩
def single (l:Bs) (z:Int):Rd Ex:=⟨kQ (word l z).v,(word l z).l,eu (word l z).v (word l z).z⟩
def formed (args:Reader (List Ex)) (t:Bs) (z:Int):Rd Ex:=
 let w:=word t z
 let a:=args w.l (j5 w.v w.z)
 ⟨Ky w.v a.v,a.l,if fI w.v a.v.length then bad a.z 5 else a.z⟩
def expr (N:Nat):Nat->Reader Ex
 |0=>fun l z=>⟨ZG,l,bad z 9⟩
 |k+1=>fun l z=>
  if z=0 then
   match skip l with
   |[]=>single [] z
   |c::t=>if c=39 then quoted t z else if c=40 then formed (aB (expr N k) N) t z else single (c::t) z
  else⟨ZG,l,z⟩
def st0:St:=.mk 0 [] [] [] []
def kindOf (w:Bs):Nat:=
 if w=[108,101,116] then 1 else if w=[115,101,116] then 2 else if w=[105,102] then 3 else if w=[119,104,105,108,101] then 4 else if w=[115,97,121] then 5 else if w=[114,101,116,117,114,110] then 6
 else if w=[112,117,116,108] then 7 else if w=[112,117,116,114] then 8 else if w=[100,111] then 9 else 0
def aA (k:Nat):Nat:=if k=0 then 0 else if k=7\/k=8 then 2 else 1
def optName (k:Nat):Reader Bs:=fun l z=>if k=1\/k=2 then name l z else⟨[],l,z⟩
def fG (nest:Reader (List St)) (k:Nat):Reader (List St×List St):=fun l z=>
 if k=3 then
  let a:=must 40 l z
  let x:=nest a.l a.z
  let b:=must 40 x.l x.z
  let y:=nest b.l b.z
  let c:=must 41 y.l y.z
  ⟨(x.v,y.v),c.l,c.z⟩
 else if k=4 then
  let x:=nest l z
  ⟨(x.v,[]),x.l,x.z⟩
 else⟨([],[]),(must 41 l z).l,(must 41 l z).z⟩
def parts (e:Reader Ex) (nest:Reader (List St)) (k:Nat):Reader St:=fun l z=>
 let n:=optName k l z
 let a:=times e (aA k) n.l n.z
 let r:=fG nest k a.l a.z
 ⟨.mk k n.v a.v r.v.1 r.v.2,r.l,r.z⟩
def D5 (e:Reader Ex) (nest:Reader (List St)):Reader St:=fun l z=>
 let a:=must 40 l z
 let w:=word a.l a.z
 parts e nest (kindOf w.v) w.l (if kindOf w.v=0 then bad w.z 1 else w.z)
def stmt (N:Nat):Nat->Reader St
 |0=>fun l z=>⟨st0,l,bad z 9⟩
 |k+1=>fun l z=>if z=0 then D5 (expr N k) (aB (stmt N k) N) l z else⟨st0,l,z⟩
def fn (N:Nat):Reader Fn:=fun l z=>
 let a:=must 40 l z
 let t:=name a.l a.z
 let b:=must 40 t.l t.z
 let p:=aB name N b.l b.z
 let s:=aB (stmt N 11) N p.l p.z
 ⟨⟨t.v,p.v,s.v⟩,s.l,s.z⟩
def j6 (N:Nat):Nat->Reader (List Fn)
 |0=>fun l z=>⟨[],l,z⟩
 |n+1=>fun l z=>
  if z=0 then
   if(skip l).isEmpty then⟨[],[],z⟩
   else
    let r:=fn N (skip l) z
    let q:=j6 N n r.l r.z
    ⟨r.v::q.v,q.l,q.z⟩
  else⟨[],l,z⟩
theorem LG (l:Bs):skip (skip l)=skip l:=by
 unfold skip
 induction l with
 |nil=>rfl
 |cons c t ih=>
  by_cases h:blank c
  ·simp[h,ih]
  ·simp[h]
theorem aG (l:Bs):(skip l).length<=l.length:=(List.dropWhile_sublist _).length_le
theorem nQ (z e:Int) (he:e≠0):bad z e≠0:=by unfold bad;split<;>assumption
theorem lD {z e:Int} (hz:z≠0):bad z e=z:=by simp[bad,hz]
def Small {α:Type} (f:Reader α):Prop:=∀l z,(f l z).l.length<=l.length
def gG {α:Type} (f:Reader α):Prop:=∀l z,z≠0->(f l z).z=z
def Less {α:Type} (f:Reader α):Prop:=∀l,(f l 0).z=0->(f l 0).l.length<l.length
theorem aJ (c:UInt8):Small (must c):=by
 intro l z;have h:=aG l;unfold must;split
 ·simp
 ·rename_i d t hs
  rw[hs] at h;simp at h
  split
  ·simp;omega
  ·simpa using h
theorem bJ (c:UInt8):gG (must c):=by
 intro l z hz;unfold must;split
 ·simp[lD hz]
 ·split<;>simp[lD hz]
theorem tV (c:UInt8):Less (must c):=by
 intro l;have h:=aG l;unfold must;split
 ·simp[bad]
 ·rename_i d t hs
  rw[hs] at h;simp at h
  split
  ·simp;omega
  ·simp[bad]
theorem D6 (m w:Bs) {z:Int} (hz:z≠0):nP m w z=z:=by
 unfold nP;split
 ·split<;>simp[lD hz]
 ·rfl
theorem bU:Small word:=by
 intro l z;exact Nat.le_trans (List.dropWhile_sublist _).length_le (aG l)
theorem qE:gG word:=fun _ _ hz=>D6 _ _ hz
theorem pF:Less word:=by
 intro l h;have h1:=aG l;have h2:((skip l).takeWhile tT).length+((skip l).dropWhile tT).length=(skip l).length:=by
  rw[<-List.length_append,List.takeWhile_append_dropWhile]
 have h3:(skip l).takeWhile tT≠ []:=by
  intro e;have:nP (skip l) ((skip l).takeWhile tT) 0≠0:=by
   rw[e];unfold nP;simp;split<;>simp[bad]
  exact this h
 have h4:0<((skip l).takeWhile tT).length:=by
  cases hq:(skip l).takeWhile tT with
  |nil=>exact absurd hq h3
  |cons a b=>simp
 show((skip l).dropWhile tT).length<l.length
 omega
theorem fJ:Small name:=fun l z=>bU l z
theorem qF:gG name:=by
 intro l z hz;show(if isName (word l z).v then(word l z).z else bad (word l z).z 7)=z
 rw[qE l z hz];split
 ·rfl
 ·exact lD hz
theorem tX:Less name:=by
 intro l h;refine pF l ?_
 by_cases h2:(word l 0).z=0
 ·exact h2
 ·exfalso
  revert h
  show(if isName (word l 0).v then(word l 0).z else bad (word l 0).z 7)=0->False
  split
  ·exact h2
  ·rw[lD h2];exact h2
theorem dR {α:Type} {one:Reader α} (h:Small one):∀n,Small (aB one n)
 |0,_,_=>Nat.le_refl _
 |n+1,l,z=>by
  have h1:=aG l;unfold aB;split
  ·split
   ·simp;omega
   ·have h2:=h (skip l) z;have h3:=dR h n (one (skip l) z).l (one (skip l) z).z;simp only;omega
  ·exact aJ 41 l z
theorem eD {α:Type} {one:Reader α}:∀n,gG (aB one n)
 |0,_,_,_=>rfl
 |n+1,l,z,hz=>by
  unfold aB;rw[if_neg hz];exact bJ 41 l z hz
theorem nR {α:Type} {one:Reader α} (h:Small one):∀n,Small (times one n)
 |0,_,_=>Nat.le_refl _
 |n+1,l,z=>Nat.le_trans (nR h n _ _) (h l z)
theorem kR {α:Type} {one:Reader α} (h:gG one):∀n,gG (times one n)
 |0,_,_,_=>rfl
 |n+1,l,z,hz=>by
  have h1:=h l z hz;show(times one n (one l z).l (one l z).z).z=z
  rw[h1];exact kR h n _ z hz
theorem Cy (w:Bs) {z:Int} (hz:z≠0):eu w z=z:=by
 unfold eu;split<;>split<;>simp[lD hz]
theorem mJ (t:Bs) (z:Int):(quoted t z).l.length<=t.length:=by
 unfold quoted;split
 ·exact Nat.le_refl _
 ·rename_i a r h
  have:=(List.dropWhile_sublist (l:=t) Gn).length_le;rw[h] at this;simp at this⊢
  omega
theorem rJ {args:Reader (List Ex)} (h:Small args) (t:Bs) (z:Int):(formed args t z).l.length<=t.length:=
 Nat.le_trans (h _ _) (bU t z)
theorem jm (N:Nat):∀k,Small (expr N k)
 |0,_,_=>Nat.le_refl _
 |k+1,l,z=>by
  have h:=aG l;unfold expr;split
  ·split
   ·have:=bU [] z;exact Nat.le_trans this (by simp)
   ·rename_i c t hs
    rw[hs] at h;simp at h
    split
    ·have:=mJ t z;omega
    ·split
     ·have:=rJ (dR (jm N k) N) t z;omega
     ·have:=bU (c::t) z;show(word (c::t) z).l.length<=_
      simp at this
      omega
  ·exact Nat.le_refl _
theorem mK (N:Nat):∀k,gG (expr N k)
 |0,_,_,hz=>lD hz
 |k+1,l,z,hz=>by
  unfold expr;rw[if_neg hz]
theorem tY {w:Bs} {z:Int} (h:eu w z=0):z=0:=by
 by_cases hz:z=0
 ·exact hz
 ·rw[Cy w hz] at h;exact h
theorem Bd (N:Nat):∀k,Less (expr N k)
 |0,l=>by intro h;exact absurd h (nQ 0 9 (by decide))
 |k+1,l=>by
  have h:=aG l;unfold expr;rw[if_pos rfl];split
  ·intro h1;have h2:=tY (show eu (word [] 0).v (word [] 0).z=0 from h1);have:=pF [] h2;simp at this
  ·rename_i c t hs
   rw[hs] at h;simp at h
   split
   ·intro _;have:=mJ t 0;omega
   ·split
    ·intro _;have:=rJ (dR (jm N k) N) t 0;omega
    ·intro h1;have h2:=pF (c::t) (tY (show eu (word (c::t) 0).v (word (c::t) 0).z=0 from h1));simp at h2
     show(word (c::t) 0).l.length<_
     omega
theorem Am (k:Nat):Small (optName k):=by
 intro l z;unfold optName;split
 ·exact fJ l z
 ·exact Nat.le_refl _
theorem Ao (k:Nat):gG (optName k):=by
 intro l z hz;unfold optName;split
 ·exact qF l z hz
 ·rfl
theorem Gp {nest:Reader (List St)} (h:Small nest) (k:Nat):Small (fG nest k):=by
 intro l z;unfold fG;split
 ·exact Nat.le_trans (aJ 41 _ _) (Nat.le_trans (h _ _) (Nat.le_trans (aJ 40 _ _) (Nat.le_trans (h _ _) (aJ 40 l z))))
 ·split
  ·exact h l z
  ·exact aJ 41 l z
theorem qG {nest:Reader (List St)} (h:gG nest) (k:Nat):gG (fG nest k):=by
 intro l z hz;unfold fG;split
 ·have h1:=bJ 40 l z hz;simp only;rw[h1];have h2:=h (must 40 l z).l z hz;rw[h2];have h3:=bJ 40 (nest (must 40 l z).l z).l z hz;rw[h3];rw[h _ z hz];exact bJ 41 _ z hz
 ·split
  ·exact h l z hz
  ·exact bJ 41 l z hz
theorem uU {e:Reader Ex} {nest:Reader (List St)} (he:Small e) (hn:Small nest) (k:Nat):Small (parts e nest k):=fun l z=>
 Nat.le_trans (Gp hn k _ _) (Nat.le_trans (nR he _ _ _) (Am k l z))
theorem uV {e:Reader Ex} {nest:Reader (List St)} (he:gG e) (hn:gG nest) (k:Nat):gG (parts e nest k):=by
 intro l z hz;show(fG nest k (times e (aA k) (optName k l z).l (optName k l z).z).l (times e (aA k) (optName k l z).l (optName k l z).z).z).z=z
 rw[Ao k l z hz,kR he _ _ z hz,qG hn k _ z hz]
theorem D7 {e:Reader Ex} {nest:Reader (List St)} (he:Small e) (hn:Small nest):Small (D5 e nest):=fun l z=>
 Nat.le_trans (uU he hn _ _ _) (Nat.le_trans (bU _ _) (aJ 40 l z))
theorem iF (N:Nat):∀k,Small (stmt N k)
 |0,_,_=>Nat.le_refl _
 |k+1,l,z=>by
  unfold stmt;split
  ·exact D7 (jm N k) (dR (iF N k) N) l z
  ·exact Nat.le_refl _
theorem Be (N:Nat):∀k,Less (stmt N k)
 |0,l=>by intro h;exact absurd h (nQ 0 9 (by decide))
 |k+1,l=>by
  unfold stmt;rw[if_pos rfl];intro h;have hk:=uV (mK N k) (eD (one:=stmt N k) N) (kindOf (word (must 40 l 0).l (must 40 l 0).z).v)
  by_cases hm:(must 40 l 0).z=0
  ·have:=tV 40 l hm;exact Nat.lt_of_le_of_lt (Nat.le_trans (uU (jm N k) (dR (iF N k) N) _ _ _) (bU _ _)) this
  ·exfalso
   have hw:=qE (must 40 l 0).l _ hm;have hz:(if kindOf (word (must 40 l 0).l (must 40 l 0).z).v=0 then bad (word (must 40 l 0).l (must 40 l 0).z).z 1 else(word (must 40 l 0).l (must 40 l 0).z).z)=(must 40 l 0).z:=by
    rw[hw];split
    ·exact lD hm
    ·rfl
   have h2:=hk (word (must 40 l 0).l (must 40 l 0).z).l (must 40 l 0).z hm;rw[<-hz] at h2;have h3:(D5 (expr N k) (aB (stmt N k) N) l 0).z=(if kindOf (word (must 40 l 0).l (must 40 l 0).z).v=0 then bad (word (must 40 l 0).l (must 40 l 0).z).z 1 else(word (must 40 l 0).l (must 40 l 0).z).z):=h2;rw[h3,hz] at h;exact hm h
theorem SL (N:Nat):Less (fn N):=by
 intro l h
 by_cases hm:(must 40 l 0).z=0
 ·have:=tV 40 l hm;exact Nat.lt_of_le_of_lt (Nat.le_trans (dR (iF N 11) N _ _) (Nat.le_trans (dR fJ N _ _) (Nat.le_trans (aJ 40 _ _) (fJ _ _)))) this
 ·exfalso
  have h1:=qF (must 40 l 0).l _ hm;have h2:(must 40 (name (must 40 l 0).l (must 40 l 0).z).l (name (must 40 l 0).l (must 40 l 0).z).z).z=(must 40 l 0).z:=by rw[h1];exact bJ 40 _ _ hm
  have h3:(aB name N (must 40 (name (must 40 l 0).l (must 40 l 0).z).l (name (must 40 l 0).l (must 40 l 0).z).z).l (must 40 (name (must 40 l 0).l (must 40 l 0).z).l (name (must 40 l 0).l (must 40 l 0).z).z).z).z=(must 40 l 0).z:=by
   rw[h2];exact eD N _ _ hm
  have h4:(fn N l 0).z=(must 40 l 0).z:=by
   show(aB (stmt N 11) N _ (aB name N (must 40 (name (must 40 l 0).l (must 40 l 0).z).l (name (must 40 l 0).l (must 40 l 0).z).z).l (must 40 (name (must 40 l 0).l (must 40 l 0).z).l (name (must 40 l 0).l (must 40 l 0).z).z).z).z).z=_
   rw[h3];exact eD N _ _ hm
  rw[h4] at h;exact hm h
end
end Go.Proofs.YtbcadjgpcfmkfaaGreatDoor
