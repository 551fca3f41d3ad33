/-
  Helpers: NdO, MsP, Sq3, Sq4, Sq5, Srv, LogT, Ordp, Plain, Sn1, Sli.
-/
import Derived.Test.YtbabakgjkloabaaGreatDoorPack7
set_option linter.unusedVariables false
set_option linter.unusedSimpArgs false
set_option maxRecDepth 100000
set_option maxHeartbeats 16000000
namespace Go.Proofs.YtbabakgjkloabaaGreatDoor
section
open Go Go.RowKit
theorem jF(l:List Int)(j:Nat)(h:j<l.length):lf (cU l) j=.int .i64 (aT l j):=by
 have:=fZ h;simp[lf,this]
theorem wX(l:List En)(j:Nat)(h:j<l.length*2):lf (dZ l) j=nr (cL l) (cS l) j:=by
 have h2:=ecl_aux l (j / 2) (by omega);rcases Nat.mod_two_eq_zero_or_one j with q|q
 ·have e:j=j / 2*2:=by omega
  have:=h2.1;rw[<-e]at this;simp[lf,this,nr,q]
 ·have e:j=j / 2*2+1:=by omega
  have:=h2.2;rw[<-e]at this;simp[lf,this,nr,q]
where ecl_aux (l:List En) (k:Nat) (h:k<l.length):=lO (l:=l) (k:=k) h
def OwE(w:World)(base:Nat)(ao:Option Addr)(cap:Nat)(l:List En):Prop:=GOwn w base 47 2 ao l.length cap (lf (dZ l))
def OwI(w:World)(base:Nat)(ao:Option Addr)(cap:Nat)(l:List Int):Prop:=GOwn w base 2 1 ao l.length cap (lf (cU l))
theorem OwE.next{w w':World}{base:Nat}{ao:Option Addr}{cap:Nat}{l:List En}(h:OwE w base ao cap l)(hb:Below w.heap.size w w'):OwE w' base ao cap l:=GOwn.next h hb
theorem OwI.next{w w':World}{base:Nat}{ao:Option Addr}{cap:Nat}{l:List Int}(h:OwI w base ao cap l)(hb:Below w.heap.size w w'):OwI w' base ao cap l:=GOwn.next h hb
theorem OwE.row{w:World}{base:Nat}{ao:Option Addr}{cap:Nat}{l:List En}(h:OwE w base ao cap l):LRow w 47 ao (dZ l):=GOwn.lrow h (dE l)
theorem OwI.row{w:World}{base:Nat}{ao:Option Addr}{cap:Nat}{l:List Int}(h:OwI w base ao cap l):LRow w 2 ao (cU l):=GOwn.lrow h (by rw[cO,Nat.mul_one])
abbrev dI(ao:Option Addr):Option Nat:=(Value.slice ao 0 0).ownBlock
structure NdO(w:World)(base:Nat)(n:Nd)(s:NdS):Prop where
 l:OwE w base s.lo s.lc n.log
 v:OwI w base s.vo s.vc n.votes
 x:OwI w base s.no s.nc n.next
 m:OwI w base s.mo s.mc n.mat
 vx:∀ b,dI s.vo=some b->dI s.no≠some b
 vm:∀ b,dI s.vo=some b->dI s.mo≠some b
 xm:∀ b,dI s.no=some b->dI s.mo≠some b
theorem NdO.next{w w':World}{base:Nat}{n:Nd}{s:NdS}(h:NdO w base n s)(hb:Below w.heap.size w w'):NdO w' base n s:=⟨h.l.next hb,h.v.next hb,h.x.next hb,h.m.next hb,h.vx,h.vm,h.xm⟩
theorem NdO.M{w:World}{base:Nat}{n:Nd}{s:NdS}(h:NdO w base n s):NdM w n s:=⟨h.l.row,h.v.row,h.x.row,h.m.row⟩
theorem rZ(ao:Option Addr)(cap:Nat)(l:List En)(hn:l.length<=1048576)(w:World){t:TypeId}(hr:LRow w t ao (dZ l)):
  Calls Tryz.prog 70 #[.slice ao l.length cap] w fun e w'=>∃ ao' cap',e=.returned (.slice ao' l.length cap')/\OwE w' w.heap.size ao' cap' l/\RB w w':=by
 refine (C3 ao l.length cap (cL l) (cS l) hn w ?_).mono ?_
 ·intro hp
  obtain⟨b,o,e,hc⟩:=hr.g (dE l) hp;exact⟨b,o,e,fun j hj=>by rw[hc j hj,wX l j hj]⟩
 ·rintro e w' ⟨ao',cap',rfl,h,hb⟩
  exact⟨ao',cap',rfl,h.congr (fun j hj=>(wX l j hj).symm),hb⟩
theorem oA(ao:Option Addr)(cap:Nat)(l:List Int)(hn:l.length<=1048576)(w:World){t:TypeId}(hr:LRow w t ao (cU l)):
  Calls Tryz.prog 71 #[.slice ao l.length cap] w fun e w'=>∃ ao' cap',e=.returned (.slice ao' l.length cap')/\OwI w' w.heap.size ao' cap' l/\RB w w':=by
 refine (D4 ao l.length cap (aT l) hn w ?_).mono ?_
 ·intro hp
  obtain⟨b,o,e,hc⟩:=hr.g (m:=l.length*1) (by rw[cO,Nat.mul_one]) hp;exact⟨b,o,e,fun j hj=>by rw[hc j hj,jF l j (by omega)]⟩
 ·rintro e w' ⟨ao',cap',rfl,h,hb⟩
  exact⟨ao',cap',rfl,h.congr (fun j hj=>(jF l j (by omega)).symm),hb⟩
theorem OwI.at{w:World}{base:Nat}{ao:Option Addr}{cap:Nat}{l:List Int}(h:OwI w base ao cap l){b:Nat}(e:dI ao=some b):base<=b/\b<w.heap.size:=GOwn.at (x:=b) h (by cases ao<;>simp_all [dI,Value.ownBlock])
theorem D6{w w':World}{base:Nat}{ao bo:Option Addr}{c d:Nat}{l k:List Int}(h:OwI w base ao c l)(h':OwI w' w.heap.size bo d k):∀ b,dI ao=some b->dI bo≠some b:=fun b e q=>by
 have h1:=(h.at e).2;have h2:=(h'.at q).1;omega
theorem OwI.from{w:World}{base base':Nat}{ao:Option Addr}{cap:Nat}{l:List Int}(h:OwI w base ao cap l)(hb:base'<=base):OwI w base' ao cap l:=GOwn.from h hb
theorem OwE.from{w:World}{base base':Nat}{ao:Option Addr}{cap:Nat}{l:List En}(h:OwE w base ao cap l)(hb:base'<=base):OwE w base' ao cap l:=GOwn.from h hb
theorem OwI.gr{w w':World}{base:Nat}{ao:Option Addr}{cap:Nat}{l:List Int}{row:Option Nat}{u:TypeId}(h:OwI w base ao cap l)(hg:w.grownBy w' row)(hx:∀ x,row=some x->aG w x u)(hn:2≠u):OwI w' base ao cap l:=GOwn.gr h hg hx hn
theorem OwE.gr{w w':World}{base:Nat}{ao:Option Addr}{cap:Nat}{l:List En}{row:Option Nat}{u:TypeId}(h:OwE w base ao cap l)(hg:w.grownBy w' row)(hx:∀ x,row=some x->aG w x u)(hn:47≠u):OwE w' base ao cap l:=GOwn.gr h hg hx hn
theorem NdO.gr{w w':World}{base:Nat}{n:Nd}{s:NdS}{row:Option Nat}{u:TypeId}(h:NdO w base n s)(hg:w.grownBy w' row)(hx:∀ x,row=some x->aG w x u)(h1:47≠u)(h2:2≠u):NdO w' base n s:=⟨h.l.gr hg hx h1,h.v.gr hg hx h2,h.x.gr hg hx h2,h.m.gr hg hx h2,h.vx,h.vm,h.xm⟩
theorem NdB.put{W:World}{b:Nat}{n n':Nd}{s s':NdS}(h:NdB W b n s)(k:Nat)(hk:k<10)(v:Value)(e:(aJ n s).set k v=aJ n' s'):NdB (W.setCell ⟨b,k,none⟩ v) b n' s':=
 (VHas.set h k v).congr (fun j hj=>by
  rw[<-e]
  by_cases q:j=k
  ·subst q
   have:j<(aJ n s).length:=hk;simp only[lf,if_true,List.getD_eq_getElem?_getD,List.getElem?_set_self this,Option.getD_some]
  ·simp only[if_neg q,lf,List.getD_eq_getElem?_getD,List.getElem?_set_ne (fun r=>q r.symm)])
theorem cG{P:Program}{ops:Array Oper}{o:Oper}{rest:List Oper}{a:Act}{W:World}{Q:Exit->Act->World->Prop}(hgd:o.guard=none)(ty:TypeId)(x y:Operand)(ho:o.op=.store ty x y)(hd:o.dst=none)(b k:Nat)(v:Value)(hx:a.eval x=.pointer (some ⟨b,k,none⟩))(hy:a.eval y=v){n:Nd}{s:NdS}(n':Nd)(s':NdS)(hb:NdB W b n s)(hk:k<10)(hi:(P.info? ty).map (·.size)=some 1)(hvc:v.cells=#[v])(hv:v.oneCell'=true)(e:(aJ n s).set k v=aJ n' s')
  (h:∀ W',NdB W' b n' s'->W.grownBy W' (some b)->wpList P ops Q rest a W'):wpList P ops Q (o :: rest) a W:=
 kC hgd ty x y ho hd b k v hx hy hb hk hi hvc hv fun W' e'=>by
  subst e';exact h _ (NdB.put hb k hk v e) (aC W b k v)
abbrev bZ(m:Ms)(eo:Option Addr)(ec:Nat):List Value:=[.int .i64 m.kind,.int .i64 m.term,.int .i64 m.frm,.int .i64 m.to,.int .i64 m.index,.int .i64 m.lterm,.slice eo m.ents.length ec,.int .i64 m.commit,.bool m.yes]
abbrev eS(m:Ms)(eo:Option Addr)(ec:Nat):Value:=.agg #[.int .i64 m.kind,.int .i64 m.term,.int .i64 m.frm,.int .i64 m.to,.int .i64 m.index,.int .i64 m.lterm,.slice eo m.ents.length ec,.int .i64 m.commit,.bool m.yes]
abbrev MsB(w:World)(b:Nat)(m:Ms)(eo:Option Addr)(ec:Nat):Prop:=VHas w b 29 9 (lf (bZ m eo ec))
theorem bJ(w:World)(m:Ms)(eo:Option Addr)(ec:Nat):MsB (w.alloc (.cells (bZ m eo ec).toArray 29)) w.heap.size m eo ec:=bH w (bZ m eo ec) 29
theorem gJ{o:Oper}{ev:Operand->Value}{x:Operand}{b:Nat}{W:World}{m:Ms}{eo:Option Addr}{ec:Nat}(ho:o.op=.load 29 x)(hx:ev x=.pointer (some ⟨b,0,none⟩))(h:MsB W b m eo ec):(execOp ev o).run Tryz.prog W=.ok (.value (eS m eo ec)) W:=by
 obtain⟨c0,c1,c2,c3,c4,c5,c6,c7,c8⟩:=h.c9;simp[lf]at c0 c1 c2 c3 c4 c5 c6 c7 c8;unfold execOp;simp[ho,hx,go_sem,c0,c1,c2,c3,c4,c5,c6,c7,c8]
abbrev gW:Ms:=⟨0,0,0,0,0,0,[],0,false⟩
structure MsM(w:World)(m:Ms)(eo:Option Addr)(ec:Nat):Prop where
 e:LRow w 47 eo (dZ m.ents)
 c:m.ents.length<=ec
theorem MsM.next{w w':World}{m:Ms}{eo:Option Addr}{ec:Nat}(h:MsM w m eo ec)(hb:Below w.heap.size w w'):MsM w' m eo ec:=⟨h.e.next hb,h.c⟩
theorem cN{W:World}{b:Nat}{n:Nd}{lo:Option Addr}{lc:Nat}{vo:Option Addr}{vc:Nat}{no:Option Addr}{nc:Nat}{mo:Option Addr}{mc:Nat}(h:NdB W b n ⟨lo,lc,vo,vc,no,nc,mo,mc⟩):W.cell? ⟨b,0,none⟩=some (.int .i64 n.id)/\W.cell? ⟨b,1,none⟩=some (.int .i64 n.peers)/\W.cell? ⟨b,2,none⟩=some (.int .i64 n.term)/\W.cell? ⟨b,3,none⟩=some (.int .i64 n.vote)/\W.cell? ⟨b,4,none⟩=some (.slice lo n.log.length lc)/\W.cell? ⟨b,5,none⟩=some (.int .i64 n.role)/\W.cell? ⟨b,6,none⟩=some (.int .i64 n.commit)/\W.cell? ⟨b,7,none⟩=some (.slice vo n.votes.length vc)/\W.cell? ⟨b,8,none⟩=some (.slice no n.next.length nc)/\W.cell? ⟨b,9,none⟩=some (.slice mo n.mat.length mc):=VHas.c10 h
theorem cM{W:World}{b:Nat}{m:Ms}{eo:Option Addr}{ec:Nat}(h:MsB W b m eo ec):W.cell? ⟨b,0,none⟩=some (.int .i64 m.kind)/\W.cell? ⟨b,1,none⟩=some (.int .i64 m.term)/\W.cell? ⟨b,2,none⟩=some (.int .i64 m.frm)/\W.cell? ⟨b,3,none⟩=some (.int .i64 m.to)/\W.cell? ⟨b,4,none⟩=some (.int .i64 m.index)/\W.cell? ⟨b,5,none⟩=some (.int .i64 m.lterm)/\W.cell? ⟨b,6,none⟩=some (.slice eo m.ents.length ec)/\W.cell? ⟨b,7,none⟩=some (.int .i64 m.commit)/\W.cell? ⟨b,8,none⟩=some (.bool m.yes):=VHas.c9 h
theorem wB{P:Program}{o:Oper}{ops:Array Oper}{rest:List Oper}{a:Act}{W:World}{Q:Exit->Act->World->Prop}(ty:TypeId)(x y:Operand)(b:Nat)(vs:List Value){t:TypeId}{f:Nat->Value}(hb:VHas W b t vs.length f)
  (h:∀ W',VHas W' b t vs.length (lf vs)->W.grownBy W' (some b)->wpList P ops Q rest a W') (hgd:o.guard=none:=by rfl) (ho:o.op=.store ty x y:=by rfl) (hd:o.dst=none:=by rfl) (hx:a.eval x=.pointer (some ⟨b,0,none⟩):=by simp[go_sem]) (hy:a.eval y=.agg vs.toArray:=by simp[go_sem]) (hi:(P.info? ty).map (·.size)=some vs.length:=by kernel_rfl) (hv:(vs.all fun v=>v.oneCell')=true:=by kernel_rfl):wpList P ops Q (o :: rest) a W:=
 gY hgd ty x y ho hd b vs hx hy hb hi (cD hv) h
theorem wC{P:Program}{ops:Array Oper}{o:Oper}{rest:List Oper}{a:Act}{W:World}{Q:Exit->Act->World->Prop}(ty:TypeId)(x y:Operand)(b k:Nat)(v:Value){t:TypeId}{n:Nat}{f:Nat->Value}(hb:VHas W b t n f)
  (h:∀ W',W'=W.setCell ⟨b,k,none⟩ v->wpList P ops Q rest a W') (hgd:o.guard=none:=by rfl) (ho:o.op=.store ty x y:=by rfl) (hd:o.dst=none:=by rfl) (hx:a.eval x=.pointer (some ⟨b,k,none⟩):=by simp[go_sem]) (hy:a.eval y=v:=by simp[go_sem]) (hk:k<n:=by omega) (hi:(P.info? ty).map (·.size)=some 1:=by kernel_rfl) (hvc:v.cells=#[v]:=by kernel_rfl) (hv:v.oneCell'=true:=by kernel_rfl):wpList P ops Q (o :: rest) a W:=
 kC hgd ty x y ho hd b k v hx hy hb hk hi hvc hv h
theorem wN{P:Program}{ops:Array Oper}{o:Oper}{rest:List Oper}{a:Act}{W:World}{Q:Exit->Act->World->Prop}(ty:TypeId)(x y:Operand)(b k:Nat)(v:Value){n:Nd}{s:NdS}(n':Nd)(s':NdS)(hb:NdB W b n s)
  (h:∀ W',NdB W' b n' s'->W.grownBy W' (some b)->wpList P ops Q rest a W') (hgd:o.guard=none:=by rfl) (ho:o.op=.store ty x y:=by rfl) (hd:o.dst=none:=by rfl) (hx:a.eval x=.pointer (some ⟨b,k,none⟩):=by simp[go_sem]) (hy:a.eval y=v:=by simp[go_sem]) (hk:k<10:=by omega) (hi:(P.info? ty).map (·.size)=some 1:=by kernel_rfl) (hvc:v.cells=#[v]:=by kernel_rfl) (hv:v.oneCell'=true:=by kernel_rfl) (e:(aJ n s).set k v=aJ n' s':=by kernel_rfl):wpList P ops Q (o :: rest) a W:=
 cG hgd ty x y ho hd b k v hx hy n' s' hb hk hi hvc hv e h
end
section
open Go.RowKit
theorem kO(i p:Int)(h1:1<=p)(h2:p<=5)(w:World):Calls Tryz.prog 41 #[.int .i64 i,.int .i64 p] w fun e w'=>e=.returned (.bool (dD i 0 (p-1)))/\w'=w:=by
 have hw:IntKind.wrap .i64 (p-1)=p-1:=wi
 go_enter Tryz.func41,Tryz.ntmps41
 go_wp2_with fail
 refine (cP i 0 (p-1) _).mono ?_;rintro e w1 ⟨rfl,rfl⟩;go_wp2;go_ret;exact⟨rfl,rfl⟩
end
section
open Go.RowKit
attribute [local go_sem ↓] Go.wp_at_zero Go.wp_at_succ
theorem qM(ao:Option Addr)(n cap:Nat)(T:Nat->Int)(X:Nat->ByteArray)(hn:n<=9223372036854775807)(w:World)(hr:NRow w ao n T X):
  Calls Tryz.prog 43 #[.slice ao n cap] w fun e w'=>e=.returned (.int .i64 (dR n T))/\w'=w:=by
 unfold dR
 by_cases h0:n=0
 ·subst h0
  rw[if_pos rfl];go_enter Tryz.func43,Tryz.ntmps43;go_wp2;go_ret;exact⟨rfl,rfl⟩
 ·rw[if_neg h0]
  obtain⟨b,o,rfl,c0,c1⟩:=hr (n-1) (by omega);have hi:((n:Int)-1).toNat=n-1:=by omega
  have hn1:¬ ((n:Int)=0):=by omega
  have hn2:(0:Int)<=(n:Int)-1:=by omega
  have hn3:(n:Int)-1<(n:Int):=by omega
  go_enter Tryz.func43,Tryz.ntmps43;go_wp2;go_ret;exact⟨rfl,rfl⟩
end
section
open Go
section
variable {P:Program} {ops:Array Oper} {Q:Exit->Act->World->Prop}
def AU(ops:Array Oper)(kx:Nat)(early keep:List Nat):Bool:=
 !keep.contains kx&&(List.range ops.size).all fun i=>match ops[i]? with
  | none=>true
  | some o=>o.guard.isNone&&(i==kx||(if early.contains i then (decide (i<kx)&&(List.range (kx+1)).any fun j=>decide (i<j)&&((j==kx||early.contains j)&&match ops[j]? with|none=>false|some p=>aK p i)) else keep.contains i))
theorem cY{id:Nat}{a0:Act}{w0:World}(hm:P.follows .mixedOrders=true)(hok:cE ops=true)(kx:Nat)(early keep:List Nat)(hmid:AU ops kx early keep=true)(hkx:Nat.blt kx ops.size=true)
  (Rx:World->World->Prop) (Post:World->Prop) (hPost:∀ w w',Post w->RB w w'->Post w') (l:List (Value->World->Prop)) (hPr:gI RB l)
  (hkeep:∀ i,i∈keep->∀ v w w',cJ l i v w->Rx w w'->cJ l i v w')
  (hearly:∀ i,i∈early->∀ o,ops[i]?=some o->OpOk P ops a0 w0.drew RB (cJ l) i o) (hlate:∀ i,i<ops.size->i≠kx->i∉early->∀ o,ops[i]?=some o->LateOk P ops a0 w0.drew Post (cJ l) keep i o)
  (o9:Oper) (ho9:ops[kx]?=some o9) (hd9:o9.dst=none)
  (hstore:∀ (ev:Operand->Value) (w':World) (v:Nat->Value),RB w0.drew w'->EvOk ops a0 o9 v ev->(∀ j,j<ops.size->aK o9 j=true->cJ l j (v j) w')->∃ w'',(execOp ev o9).run P w'=.ok .skip w''/\Rx w' w''/\Post w'')
  (hend:∀ v w'',Post w''->(∀ i,i∈keep->i<ops.size->i≠kx->cJ l i (v i) w'')->Q .normal (bF v 0 ops.toList a0) w''):(Code.region id ops true).wp P Q a0 w0:=by
 have hkx':kx<ops.size:=nb hkx;simp only[AU,Bool.and_eq_true,List.all_eq_true,List.mem_range]at hmid;obtain⟨hkk,hmid⟩:=hmid;have hkk':kx∉keep:=by simpa using hkk
 have guardN:∀ (i:Nat) (o:Oper),ops[i]?=some o->o.guard=none:=fun i o ho=>by
  have hil:i<ops.size:=(Array.getElem?_eq_some_iff.1 ho).1;have:=hmid i hil;rw[ho]at this;simp only[Bool.and_eq_true,Option.isNone_iff_eq_none]at this;exact this.1
 have earlyIs:∀ i,i∈early->i<ops.size->i≠kx->i<kx/\∃ j p,i<j/\j<=kx/\(j=kx\/j∈early)/\ops[j]?=some p/\aY p i:=fun i hE hi hne=>by
  have hoi:ops[i]?=some ops[i]:=by simp
  have:=hmid i hi;rw[hoi]at this;simp only[Bool.and_eq_true,Bool.or_eq_true,beq_iff_eq,hne,false_or]at this;have h2:=this.2;rw[if_pos (by simpa using hE)]at h2;simp only[Bool.and_eq_true,decide_eq_true_eq,List.any_eq_true,List.mem_range,Bool.or_eq_true,beq_iff_eq]at h2;obtain⟨h3,j,hj,hij,hjk,hwj⟩:=h2;refine⟨h3,j,?_⟩;cases hp:ops[j]? with
  | none=>rw[hp]at hwj;cases hwj
  | some p=>
   rw[hp]at hwj;exact⟨p,hij,by omega,hjk.imp (fun q=>q) (by simp),rfl,aQ hwj⟩
 have earlyD:∀ (D:Nat->Bool),(∀ i o j,ops[i]?=some o->D i=true->aY o j->D j=true)->D kx=true->∀ n i,i+n=kx->i∈early->i<ops.size->D i=true:=by
  intro D hC hDx n
  induction n using Nat.strongRecOn with
  | ind n ih=>
   intro i hin hE hi
   by_cases hne:i=kx
   ·rw[hne];exact hDx
   obtain⟨_,j,p,hij,hjk,hjE,hp,hwj⟩:=earlyIs i hE hi hne;refine hC j p i hp ?_ hwj;rcases hjE with rfl|hjE
   ·exact hDx
   ·exact ih (kx-j) (by omega) j (by omega) hjE (by omega)
 let Inv:(Nat->Bool)->(Nat->Value)->World->Prop:=fun D v w=>
  (∀ i o j,ops[i]?=some o->D i=true->aY o j->D j=true) ∧
  (if D kx=true then Post w/\∀ i,i∈keep->i≠kx->D i=true->cJ l i (v i) w else RB w0.drew w/\∀ i,i≠kx->D i=true->cJ l i (v i) w)
 refine jP hm hok Inv ⟨fun _ _ _ _ h=>(Bool.noConfusion h),?_⟩ ?_ ?_
 ·simp only[Bool.false_eq_true,if_false]
  exact⟨rr _,fun _ _ h=>h.elim⟩
 ·intro i o ho a D v w hDi hDw hI hE
  obtain⟨hC,hI⟩:=hI;have hil:i<ops.size:=(Array.getElem?_eq_some_iff.1 ho).1;rw[if_pos (by unfold Region.wanted;rw[guardN i o ho])]
  have hC':∀ i' o' j,ops[i']?=some o'->(if i'=i then true else D i')=true->aY o' j->(if j=i then true else D j)=true:=fun i' o' j ho' hd hw=>by
   by_cases hji:j=i
   ·simp[hji]
   ·simp only[hji,if_false]
    by_cases hii:i'=i
    ·subst hii
     rw[ho]at ho';cases ho';exact hDw j hw
    ·simp only[hii,if_false]at hd
     exact hC i' o' j ho' hd hw
  by_cases hix:i=kx
  ·subst hix
   have ho':o=o9:=by rw[ho9]at ho;exact (oI ho).symm
   subst ho';rw[if_neg (by rw[hDi];simp)]at hI;obtain⟨w'',hr,h1,h2⟩:=hstore a.eval w v hI.1 hE (fun j hj hw=>hI.2 j (fun q=>by have:=(bO hok ho).1 j (aQ hw);omega) (hDw j (aQ hw)));unfold Oper.wp;rw[hr];simp only[Oper.upon,hd9];refine⟨undef,by simp[Act.put],hC',?_⟩;dsimp only;rw[if_pos (by simp)];refine⟨h2,fun k hk hki hdk=>?_⟩;simp only[hki,if_false]at hdk ⊢;exact hkeep k hk _ _ _ (hI.2 k hki hdk) h1
  ·have hxe:(if kx=i then true else D kx)=D kx:=if_neg (fun q=>hix q.symm)
   by_cases hE':i∈early
   ·have hDx:D kx=false:=by
     rcases bq (D kx) with q|q
     ·exfalso
      have h1:=(earlyIs i hE' hil hix).1;have:=earlyD D hC q (kx-i) i (by omega) hE' hil;rw[hDi]at this;cases this
     ·exact q
    rw[if_neg (by rw[hDx];simp)]at hI
    have hO:=hearly i hE' o ho a w v Q hI.1 (fun j p d hj hd hlt hwj=>hE.at_ j d (by rw[hj];exact hd) (oH.2 hwj) hlt) (fun j hj hwj=>hI.2 j (fun q=>by have h1:=(bO hok ho).1 j hwj;have h2:=(earlyIs i hE' hil hix).1;omega) (hDw j hwj)) (fun d hno=>by
     have:iN ops d=true:=by
      unfold iN;rw[Array.all_eq_true'];intro p hp;obtain⟨j,hj⟩:=Array.mem_iff_getElem?.1 hp;simpa using hno j p hj
     exact hE.old d this)
    rw[if_pos (by unfold Region.wanted;rw[guardN i o ho])]at hO;refine Oper.wp_mono ?_ hO;rintro a' w' ⟨u,e,h1,h2⟩;refine⟨u,e,hC',?_⟩;dsimp only;rw[if_neg (by rw[hxe,hDx];simp)];refine⟨rt _ _ _ hI.1 h1,fun k hk hdk=>?_⟩
    by_cases hki:k=i
    ·subst hki;simp only[if_true];exact h2
    ·simp only[hki,if_false]at hdk ⊢
     exact cC hPr k _ _ _ (hI.2 k hk hdk) h1
   ·have hkp:i∈keep:=by
     have:=hmid i hil;rw[ho]at this;simp only[Bool.and_eq_true,Bool.or_eq_true,beq_iff_eq,hix,false_or]at this;have h2:=this.2;rw[if_neg (by simpa using hE')]at h2;simpa using h2
    have hpr:∀ j,j∈keep->aK o j=true->(j≠kx->cJ l j (v j) w):=fun j hj hw hjk=>by
     have hd:=hDw j (aQ hw)
     split at hI
     ·exact hI.2 j hj hjk hd
     ·exact hI.2 j hjk hd
    obtain⟨u,w',hr,h1,h2⟩:=hlate i hil hix hE' o ho a.eval w v (by
     split at hI
     ·exact .inr hI.1
     ·exact .inl hI.1) hE (fun j hj hw=>by
      by_cases hjk:j=kx
      ·exact absurd (hjk ▸ hj) hkk'
      ·exact hpr j hj hw hjk)
    unfold Oper.wp;rw[hr];refine⟨u,rfl,hC',?_⟩;dsimp only
    split at hI
    ·next hDx=>
     rw[if_pos (by rw[hxe];exact hDx)];refine⟨hPost _ _ hI.1 h1,fun k hk hkk hdk=>?_⟩
     by_cases hki:k=i
     ·subst hki;simp only[if_true];exact h2
     ·simp only[hki,if_false]at hdk ⊢
      exact cC hPr k _ _ _ (hI.2 k hk hkk hdk) h1
    ·next hDx=>
     rw[if_neg (by rw[hxe];exact hDx)];refine⟨rt _ _ _ hI.1 h1,fun k hkk hdk=>?_⟩
     by_cases hki:k=i
     ·subst hki;simp only[if_true];exact h2
     ·simp only[hki,if_false]at hdk ⊢
      exact cC hPr k _ _ _ (hI.2 k hkk hdk) h1
 ·intro D v w hall hI
  obtain⟨_,hI⟩:=hI;rw[if_pos (hall _ hkx')]at hI;exact hend v w hI.1 (fun i hi hlt hne=>hI.2 i hi hne (hall i hlt))
end
section
variable {P:Program} {ops:Array Oper} {Q:Exit->Act->World->Prop}
theorem hU{id:Nat}{a0:Act}{w0:World}(hok:cE ops=true)(R:World->World->Prop)(hR0:∀ w,R w w)(hRt:∀ u v w,R u v->R v w->R u w)(l:List (Value->World->Prop))(hPr:gI R l)(hll:l.length=ops.size)
  (hstep:oT P ops a0 w0 R (cJ l) 0 ops.toList)
  (hend:∀ v w',R w0 w'->uT v w' 0 l->Q .normal (bF v 0 ops.toList a0) w'):(Code.region id ops false).wp P Q a0 w0:=by
 refine wp_region_list ?_
 have key:∀ (rest:List Oper) (i:Nat) (a:Act) (w:World) (v:Nat->Value),(∀ j,rest[j]?=ops[i+j]?)->i+rest.length=ops.size->R w0 w->Fr ops a0 (fun j=>decide (j<i)) v a->(∀ j,j<i->cJ l j (v j) w)->wpList P ops Q rest a w:=by
  intro rest
  induction rest with
  | nil=>
   intro i a w v hr hi hR hF hP;have hi':i=ops.size:=by simpa using hi
   subst hi';have h2:=lL hok v a0 ops.toList 0 a0 (fun k _=>by simp) ((Fr.init a0 v).congr (fun j _=>by simp) (fun _ _ _=>rfl));have h1:Fr ops a0 (fun k=>decide (k<0+ops.toList.length)) v a:=hF.congr (fun j hj=>by simp[hj]) (fun _ _ _=>rfl);refine wpList_nil ?_;rw[h1.uniq h2];exact hend v w hR (mG l 0 fun j hj=>by rw[Nat.zero_add];exact hP j (by omega))
  | cons o rest ih=>
   intro i a w v hr hi hR hF hP;have ho:ops[i]?=some o:=by have:=hr 0;simpa using this.symm
   have hil:i<ops.size:=(Array.getElem?_eq_some_iff.1 ho).1;have hO:=mH hstep i o (by simpa using ho);rw[Nat.zero_add]at hO;have hsp:=bO hok ho
   have hS:=hO a w v Q hR (fun j p d hj hd hlt hwj=>by
    have:=hF.done j p d hj (by simp[hsp.1 j hwj]) hd hlt
    simp[Act.eval,Array.getD_eq_getD_getElem?,this]) (fun j hj hwj=>hP j (hsp.1 j hwj)) (fun d hno=>by
    have:=hF.rest d fun j p hj _=>hno j p hj
    simp[Act.eval,Array.getD_eq_getD_getElem?,this])
   have next:∀ u w',R w w'->cJ l i u w'->wpList P ops Q rest (a.put o.dst u) w':=fun u w' hR' hu'=>by
    refine ih (i+1) _ _ (fun k=>if k=i then u else v k) (fun j=>by
     have:=hr (j+1);simp only[List.getElem?_cons_succ]at this
     rw[this];congr 1;omega) (by simp at hi;omega) (hRt _ _ _ hR hR') ?_ ?_
    ·refine (hF.put hok ho (by simp) u).congr (fun j hj=>?_) (fun _ _ _=>rfl)
     by_cases hji:j=i
     ·simp[hji]
     ·simp only[hji,if_false];rw[decide_eq_decide];omega
    ·intro j hj
     by_cases hji:j=i
     ·subst hji;simp only[if_true];exact hu'
     ·simp only[hji,if_false]
      exact cC hPr j _ _ _ (hP j (by omega)) hR'
   refine wpList_step fun K hK=>?_
   split
   ·rename_i hwt
    rw[if_pos hwt]at hS;exact Oper.wp_mono (fun a' w' ⟨u,e,h1,h2⟩=>by rw[e];exact hK _ _ (next u w' h1 h2)) hS
   ·rename_i hwt
    rw[if_neg hwt]at hS;exact hK _ _ (next undef w (hR0 w) hS)
 exact key ops.toList 0 a0 w0 (fun _=>undef) (fun j=>by simp) (by simp) (hR0 _) ((Fr.init a0 _).congr (fun j _=>by simp) (fun _ _ _=>rfl)) (fun j hj=>by omega)
end
end
section
open Go Go.RowKit
attribute [local go_sem ↓] Go.wp_at_zero Go.wp_at_succ
theorem bS(x lo hi:Int)(w:World):Calls Tryz.prog 40 #[.int .i64 x,.int .i64 lo,.int .i64 hi] w fun e w'=>e=.returned (.bool (dD x lo hi))/\RB w w':=(cP x lo hi w).mono fun e w' h=>⟨h.1,by rw[h.2];exact rr w⟩
theorem BK(x p:Int):dD x 0 (p-1)=dS p x:=by
 simp only[dD,dS,Bool.decide_and]
 congr 1
 exact decide_eq_decide.2 (by omega)
theorem oY(x lo hi:Int):dD x lo hi=decide (lo<=x/\x<=hi):=by simp only[dD,Bool.decide_and]
theorem iX(i p:Int)(h1:1<=p)(h2:p<=5)(w:World):Calls Tryz.prog 41 #[.int .i64 i,.int .i64 p] w fun e w'=>e=.returned (.bool (dS p i))/\RB w w':=(kO i p h1 h2 w).mono fun e w' h=>⟨by rw[h.1,BK],by rw[h.2];exact rr w⟩
theorem qJ(ao:Option Addr)(cap:Nat)(l:List En)(hn:l.length<=1048576)(hX:∀ k,k<l.length->(cS l k).size<=1048576)(w:World){t:TypeId}(hr:LRow w t ao (dZ l)):Calls Tryz.prog 42 #[.slice ao l.length cap] w fun e w'=>e=.returned (.bool (fJ l))/\RB w w':=fO ao l.length cap (cL l) (cS l) (by omega) hX w hr.n
theorem oC(ao:Option Addr)(cap:Nat)(l:List En)(hn:l.length<=1048576)(w:World){t:TypeId}(hr:LRow w t ao (dZ l)):Calls Tryz.prog 43 #[.slice ao l.length cap] w fun e w'=>e=.returned (.int .i64 (bM l))/\RB w w':=(qM ao l.length cap (cL l) (cS l) (by omega) w hr.n).mono fun e w' h=>⟨h.1,by rw[h.2];exact rr w⟩
def dG(n:Nd):Bool:=bY n && !((n.role==3)&&(n.term==0))
theorem xD{n:Nd}(h:dG n=true):bY n=true:=by
 simp only[dG,Bool.and_eq_true]at h;exact h.1
def xE(l:List Int)(k:Nat):Int:=if k=0 then 0 else aT l (k-1)+1
theorem zL(p least:Int){l:List Int}{k:Nat}(h:l.length<=k):bB p least (l.drop k)=true:=by
 rw[List.drop_eq_nil_of_le h];rfl
theorem E4(p least:Int){l:List Int}{k:Nat}(h:k<l.length):bB p least (l.drop k)=(decide (least<=aT l k)&&(dS p (aT l k)&&bB p (aT l k+1) (l.drop (k+1)))):=by
 rw[List.drop_eq_getElem_cons h];have e:aT l k=l[k]:=by simp[aT,h]
 rw[e];rfl
theorem E5{e:Int}{nx mt:List Int}{m:Nat}(h:∀ j,j<m->cA e nx mt j=true):(List.range m).all (cA e nx mt)=true:=by
 rw[List.all_eq_true];exact fun j hj=>h j (List.mem_range.1 hj)
theorem O9{e:Int}{nx mt:List Int}{m k:Nat}(hk:k<m)(h:cA e nx mt k=false):(List.range m).all (cA e nx mt)=false:=by
 rw[List.all_eq_false];exact⟨k,List.mem_range.2 hk,by rw[h];simp⟩
theorem aW{P:Program}{Q:Exit->Act->World->Prop}{a:Act}{w:World}{x y:Code}(h:∀ K:Act->World->Prop,Hid (∀ a w,y.wp P Q a w->K a w)->x.wp P (Exit.then K Q) a w):(Code.seq x y).wp P Q a w:=wp_seq_k fun K hK=>h K hK
def sI(n:Nd):Bool:=decide (1<=n.peers/\n.peers<=5)&&(dS n.peers n.id&&(decide (0<=n.term/\n.term<=100000)&&((n.vote == -1||dS n.peers n.vote)&&((fJ n.log&&decide (bM n.log<=n.term))&&(decide (1<=n.role/\n.role<=3)&&decide (0<=n.commit/\n.commit<=n.log.length))))))
theorem K4(n:Nd):bY n=(sI n&&cB n):=by
 by_cases h:1<=n.role/\n.role<=3
 ·simp[bY,sI,h,Bool.and_assoc]
 ·have hr:cB n=false:=by
   simp only[cB];rw[if_neg (by omega),if_neg (by omega),if_neg (by omega)]
  rw[hr];simp[bY,hr]
theorem P0(p v:Int)(l:List Int)(k:Nat):(!(dS p v)||(decide ((0:Int)<(k:Int))&&decide (v<=aT l (k-1)))) = !(decide (xE l k<=v)&&dS p v):=by
 rcases Nat.eq_zero_or_pos k with h|h
 ·subst h
  simp only[xE,if_true,dS]
  by_cases h0:0<=v<;>simp[h0]
 ·have h1:decide ((0:Int)<(k:Int))=true:=by simp;omega
  have h2:decide (xE l k<=v) = !(decide (v<=aT l (k-1))):=by
   rw[<-decide_not,xE,if_neg (by omega)];exact decide_eq_decide.2 (by omega)
  rw[h1,h2];cases dS p v<;>cases decide (v<=aT l (k-1))<;>rfl
theorem zM{n:Nd}(h:bB n.peers 0 n.votes=false):cB n=false:=by
 have h0:n.votes.isEmpty=false:=by
  cases hv:n.votes with
  | nil=>rw[hv]at h;simp[bB]at h
  | cons a b=>rfl
 simp only[cB,h,h0,Bool.false_and]
 split<;>(try rfl)
 split<;>(try rfl)
 split<;>rfl
theorem eW(n:Nd)(s:NdS)(hz:NdZ n s)(w:World)(hM:NdM w n s):Calls Tryz.prog 11 #[aX n s] w fun e w'=>e=.returned (.bool (dG n))/\RB w w':=by
 obtain⟨hzl,hzv,hzx,hzm,hlc,hvc,hxc,hmc,hzt⟩:=hz;obtain⟨lo,lc,vo,vc,no,nc,mo,mc⟩:=s;have hb:=ra w (.cells (aJ n ⟨lo,lc,vo,vc,no,nc,mo,mc⟩).toArray 27);have vA:NdB _ w.heap.size n ⟨lo,lc,vo,vc,no,nc,mo,mc⟩:=aH w n ⟨lo,lc,vo,vc,no,nc,mo,mc⟩;replace hM:=hM.next hb;clear hlc hvc hxc hmc;obtain⟨c0,c1,c2,c3,c4,c5,c6,c7,c8,c9⟩:=vA.c10;simp[lf]at c0 c1 c2 c3 c4 c5 c6 c7 c8 c9;go_enter Tryz.func11,Tryz.ntmps11
 go_wp2_with fail
 clear c0 c1 c2 c3 c4 c5 c6 c7 c8 c9;generalize (w.alloc _)=W at hb vA hM ⊢;have hd:RB W W.drew:=(Below.refl _ _).drew;replace hb:=rt _ _ _ hb hd;replace vA:NdB W.drew w.heap.size n ⟨lo,lc,vo,vc,no,nc,mo,mc⟩:=vn vA hd;replace hM:=hM.next hd;clear hd;obtain⟨b11,qb11⟩:∃ b:Bool,b=(dD (n.peers) (1) (5)):=⟨_,rfl⟩
 obtain⟨b12,qb12⟩:∃ b:Bool,b=(!b11):=⟨_,rfl⟩
 obtain⟨c4f,hc4f⟩:∃ c:Bool,c=(true&&((b12)==false)):=⟨_,rfl⟩
 obtain⟨b18,qb18⟩:∃ b:Bool,b=(dS (n.peers) (n.id)):=⟨_,rfl⟩
 obtain⟨b19,qb19⟩:∃ b:Bool,b=(!b18):=⟨_,rfl⟩
 obtain⟨b20,qb20⟩:∃ b:Bool,b=((b12||b19)):=⟨_,rfl⟩
 obtain⟨c12f,hc12f⟩:∃ c:Bool,c=(true&&((b20)==false)):=⟨_,rfl⟩
 obtain⟨b24,qb24⟩:∃ b:Bool,b=(dD (n.term) (0) (100000)):=⟨_,rfl⟩
 obtain⟨b25,qb25⟩:∃ b:Bool,b=(!b24):=⟨_,rfl⟩
 obtain⟨b26,qb26⟩:∃ b:Bool,b=((b20||b25)):=⟨_,rfl⟩
 obtain⟨c18f,hc18f⟩:∃ c:Bool,c=(true&&((b26)==false)):=⟨_,rfl⟩
 obtain⟨b30,qb30⟩:∃ b:Bool,b=((n.vote != (-1))):=⟨_,rfl⟩
 obtain⟨c22t,hc22t⟩:∃ c:Bool,c=(c18f&&((b30)==true)):=⟨_,rfl⟩
 obtain⟨b36,qb36⟩:∃ b:Bool,b=(dS (n.peers) (n.vote)):=⟨_,rfl⟩
 obtain⟨b37,qb37⟩:∃ b:Bool,b=(!b36):=⟨_,rfl⟩
 obtain⟨b38,qb38⟩:∃ b:Bool,b=((b30&&b37)):=⟨_,rfl⟩
 obtain⟨b39,qb39⟩:∃ b:Bool,b=((b26||b38)):=⟨_,rfl⟩
 obtain⟨c31f,hc31f⟩:∃ c:Bool,c=(true&&((b39)==false)):=⟨_,rfl⟩
 obtain⟨b43,qb43⟩:∃ b:Bool,b=(fJ n.log):=⟨_,rfl⟩
 obtain⟨b44,qb44⟩:∃ b:Bool,b=(!b43):=⟨_,rfl⟩
 obtain⟨b45,qb45⟩:∃ b:Bool,b=((b39||b44)):=⟨_,rfl⟩
 obtain⟨c37f,hc37f⟩:∃ c:Bool,c=(true&&((b45)==false)):=⟨_,rfl⟩
 obtain⟨b52,qb52⟩:∃ b:Bool,b=(decide (n.term<(bM n.log))):=⟨_,rfl⟩
 obtain⟨b53,qb53⟩:∃ b:Bool,b=((b45||b52)):=⟨_,rfl⟩
 obtain⟨c45f,hc45f⟩:∃ c:Bool,c=(true&&((b53)==false)):=⟨_,rfl⟩
 obtain⟨b57,qb57⟩:∃ b:Bool,b=(dD (n.role) (1) (3)):=⟨_,rfl⟩
 obtain⟨b58,qb58⟩:∃ b:Bool,b=(!b57):=⟨_,rfl⟩
 obtain⟨b59,qb59⟩:∃ b:Bool,b=((b53||b58)):=⟨_,rfl⟩
 obtain⟨c51f,hc51f⟩:∃ c:Bool,c=(true&&((b59)==false)):=⟨_,rfl⟩
 obtain⟨b64,qb64⟩:∃ b:Bool,b=(dD (n.commit) (0) ((n.log.length:Int))):=⟨_,rfl⟩
 obtain⟨b65,qb65⟩:∃ b:Bool,b=(!b64):=⟨_,rfl⟩
 obtain⟨b66,qb66⟩:∃ b:Bool,b=((b59||b65)):=⟨_,rfl⟩
 refine bQ (by kernel_rfl) (by kernel_rfl) RB rr rt
  [isV (.pointer (some ⟨w.heap.size,1,none⟩)),isV (.int .i64 n.peers),isV (.bool b11),isV (.bool b12),isV (.bool b12),isV (gv c4f (.pointer (some ⟨w.heap.size,0,none⟩))),isV (gv c4f (.int .i64 n.id)),isV (gv c4f (.pointer (some ⟨w.heap.size,1,none⟩))),isV (gv c4f (.int .i64 n.peers)),isV (gv c4f (.bool b18)),isV (gv c4f (.bool b19)),isV (.bool b20),isV (.bool b20),isV (gv c12f (.pointer (some ⟨w.heap.size,2,none⟩))),isV (gv c12f (.int .i64 n.term)),isV (gv c12f (.bool b24)),isV (gv c12f (.bool b25)),isV (.bool b26),isV (.bool b26),isV (gv c18f (.pointer (some ⟨w.heap.size,3,none⟩))),isV (gv c18f (.int .i64 n.vote)),isV (gv c18f (.bool b30)),isV (gv c18f (.bool b30)),isV (gv c22t (.pointer (some ⟨w.heap.size,3,none⟩))),isV (gv c22t (.int .i64 n.vote)),isV (gv c22t (.pointer (some ⟨w.heap.size,1,none⟩))),isV (gv c22t (.int .i64 n.peers)),isV (gv c22t (.bool b36)),isV (gv c22t (.bool b37)),isV (gv c18f (.bool b38)),isV (.bool b39),isV (.bool b39),isV (gv c31f (.pointer (some ⟨w.heap.size,4,none⟩))),isV (gv c31f (.slice lo n.log.length lc)),isV (gv c31f (.bool b43)),isV (gv c31f (.bool b44)),isV (.bool b45),isV (.bool b45),isV (gv c37f (.pointer (some ⟨w.heap.size,4,none⟩))),isV (gv c37f (.slice lo n.log.length lc)),isV (gv c37f (.int .i64 (bM n.log))),isV (gv c37f (.pointer (some ⟨w.heap.size,2,none⟩))),isV (gv c37f (.int .i64 n.term)),isV (gv c37f (.bool b52)),isV (.bool b53),isV (.bool b53),isV (gv c45f (.pointer (some ⟨w.heap.size,5,none⟩))),isV (gv c45f (.int .i64 n.role)),isV (gv c45f (.bool b57)),isV (gv c45f (.bool b58)),isV (.bool b59),isV (.bool b59),isV (gv c51f (.pointer (some ⟨w.heap.size,6,none⟩))),isV (gv c51f (.int .i64 n.commit)),isV (gv c51f (.int .i64 (n.log.length:Int))),isV (gv c51f (.bool b64)),isV (gv c51f (.bool b65)),isV (.bool b66)]
  ⟨iR,iR,iR,iR,iR,iR,iR,iR,iR,iR,iR,iR,iR,iR,iR,iR,iR,iR,iR,iR,iR,iR,iR,iR,iR,iR,iR,iR,iR,iR,iR,iR,iR,iR,iR,iR,iR,iR,iR,iR,iR,iR,iR,iR,iR,iR,iR,iR,iR,iR,iR,iR,iR,iR,iR,iR,iR,iR,trivial⟩ rfl ?_ ?_
 ·refine⟨?_,?_,?_,?_,?_,?_,?_,?_,?_,?_,?_,?_,?_,?_,?_,?_,?_,?_,?_,?_,?_,?_,?_,?_,?_,?_,?_,?_,?_,?_,?_,?_,?_,?_,?_,?_,?_,?_,?_,?_,?_,?_,?_,?_,?_,?_,?_,?_,?_,?_,?_,?_,?_,?_,?_,?_,?_,?_,trivial⟩
  ·exact ow 1
  ·exact oc 0 9 fun _ hR=>(vA.next hR).cell (j:=1) (by omega)
  ·exact OpOk.ret _ (fun _=>rfl) fun ev w' v hR E pr=>by
    have e1:=E.eq pr 1 10;refine⟨40,#[.int .i64 n.peers,.int .i64 1,.int .i64 5],by simp[go_sem,gv,e1,E.con,E.fn],?_⟩;rw[qb11];exact bS (n.peers) (1) (5) _
  ·exact mQ 2 11 qb12
  ·exact o1 3 12
  ·exact gw 4 13 hc4f 1 nt
  ·exact gc 4 13 hc4f 5 14 fun _ hR=>(vA.next hR).cell (j:=0) (by omega)
  ·exact gw 4 13 hc4f 1 nt
  ·exact gc 4 13 hc4f 7 16 fun _ hR=>(vA.next hR).cell (j:=1) (by omega)
  ·exact OpOk.gdCall 4 13 false true (b12) (fun _ _ h=>h) c4f hc4f _ (fun _=>rfl) fun ev w' v hR E pr hC=>by
    have e1:=E.eq pr 6 15;have e2:=E.eq pr 8 17;rw[hC]at e1;rw[hC]at e2;refine⟨41,#[.int .i64 n.id,.int .i64 n.peers],by simp[go_sem,gv,e1,e2,E.fn],?_⟩;rw[qb18];exact iX (n.id) (n.peers) (by simp[hc4f,qb11,qb12,dD]at hC;omega) (by simp[hc4f,qb11,qb12,dD]at hC;omega) _
  ·exact g1 4 13 hc4f 9 18 qb19
  ·exact oq rfl fun ev w' v hR E pr=>by
    have e1:=E.eq pr 4 13;have e2:=E.eq pr 10 19;rcases bq (b12) with hs|hs<;>simp[go_sem,E.con,qb20,gv,hc4f,e1,e2,hs]
  ·exact o1 11 20
  ·exact gw 12 21 hc12f 1 nt
  ·exact gc 12 21 hc12f 13 22 fun _ hR=>(vA.next hR).cell (j:=2) (by omega)
  ·exact OpOk.gdCall 12 21 false true (b20) (fun _ _ h=>h) c12f hc12f _ (fun _=>rfl) fun ev w' v hR E pr hC=>by
    have e1:=E.eq pr 14 23;rw[hC]at e1;refine⟨40,#[.int .i64 n.term,.int .i64 0,.int .i64 100000],by simp[go_sem,gv,e1,E.con,E.fn],?_⟩;rw[qb24];exact bS (n.term) (0) (100000) _
  ·exact g1 12 21 hc12f 15 24 qb25
  ·exact oq rfl fun ev w' v hR E pr=>by
    have e1:=E.eq pr 12 21;have e2:=E.eq pr 16 25;rcases bq (b20) with hs|hs<;>simp[go_sem,E.con,qb26,gv,hc12f,e1,e2,hs]
  ·exact o1 17 26
  ·exact gw 18 27 hc18f 1 nt
  ·exact gc 18 27 hc18f 19 28 fun _ hR=>(vA.next hR).cell (j:=3) (by omega)
  ·exact g1 18 27 hc18f 20 29 qb30
  ·exact g1 18 27 hc18f 21 30 nt
  ·exact gw 22 31 hc22t 1 nt
  ·exact gc 22 31 hc22t 23 32 fun _ hR=>(vA.next hR).cell (j:=3) (by omega)
  ·exact gw 22 31 hc22t 1 nt
  ·exact gc 22 31 hc22t 25 34 fun _ hR=>(vA.next hR).cell (j:=1) (by omega)
  ·exact OpOk.gdCall 22 31 true c18f (b30) (fun _ _ h=>h) c22t hc22t _ (fun _=>rfl) fun ev w' v hR E pr hC=>by
    have e1:=E.eq pr 24 33;have e2:=E.eq pr 26 35;rw[hC]at e1;rw[hC]at e2;refine⟨41,#[.int .i64 n.vote,.int .i64 n.peers],by simp[go_sem,gv,e1,e2,E.fn],?_⟩;rw[qb36];exact iX (n.vote) (n.peers) (by simp[hc4f,hc12f,hc18f,hc22t,qb11,qb12,qb18,qb19,qb20,qb24,qb25,qb26,qb30,dD]at hC;omega) (by simp[hc4f,hc12f,hc18f,hc22t,qb11,qb12,qb18,qb19,qb20,qb24,qb25,qb26,qb30,dD]at hC;omega) _
  ·exact g1 22 31 hc22t 27 36 qb37
  ·exact OpOk.gd rr 18 27 false true (b26) (fun _ _ h=>h) c18f hc18f _ (fun _=>rfl) fun ev w' v hR E pr hC=>by
    have e1:=E.eq pr 22 31;have e2:=E.eq pr 28 37;rcases bq (b30) with hs|hs<;>simp[go_sem,gv,hC,hc18f,E.con,qb38,gv,hc22t,e1,e2,hs]
  ·exact oq rfl fun ev w' v hR E pr=>by
    have e1:=E.eq pr 18 27;have e2:=E.eq pr 29 38;rcases bq (b26) with hs|hs<;>simp[go_sem,E.con,qb39,gv,hc18f,e1,e2,hs]
  ·exact o1 30 39
  ·exact gw 31 40 hc31f 1 nt
  ·exact gc 31 40 hc31f 32 41 fun _ hR=>(vA.next hR).cell (j:=4) (by omega)
  ·exact OpOk.gdCall 31 40 false true (b39) (fun _ _ h=>h) c31f hc31f _ (fun _=>rfl) fun ev w' v hR E pr hC=>by
    have e1:=E.eq pr 33 42;rw[hC]at e1;refine⟨42,#[.slice lo n.log.length lc],by simp[go_sem,gv,e1,E.fn],?_⟩;rw[qb43];exact qJ lo lc n.log hzl hzt _ (hM.next hR).l
  ·exact g1 31 40 hc31f 34 43 qb44
  ·exact oq rfl fun ev w' v hR E pr=>by
    have e1:=E.eq pr 31 40;have e2:=E.eq pr 35 44;rcases bq (b39) with hs|hs<;>simp[go_sem,E.con,qb45,gv,hc31f,e1,e2,hs]
  ·exact o1 36 45
  ·exact gw 37 46 hc37f 1 nt
  ·exact gc 37 46 hc37f 38 47 fun _ hR=>(vA.next hR).cell (j:=4) (by omega)
  ·exact OpOk.gdCall 37 46 false true (b45) (fun _ _ h=>h) c37f hc37f _ (fun _=>rfl) fun ev w' v hR E pr hC=>by
    have e1:=E.eq pr 39 48;rw[hC]at e1;refine⟨43,#[.slice lo n.log.length lc],by simp[go_sem,gv,e1,E.fn],?_⟩;exact oC lo lc n.log hzl _ (hM.next hR).l
  ·exact gw 37 46 hc37f 1 nt
  ·exact gc 37 46 hc37f 41 50 fun _ hR=>(vA.next hR).cell (j:=2) (by omega)
  ·exact g2 37 46 hc37f 40 49 42 51 qb52
  ·exact oq rfl fun ev w' v hR E pr=>by
    have e1:=E.eq pr 37 46;have e2:=E.eq pr 43 52;rcases bq (b45) with hs|hs<;>simp[go_sem,E.con,qb53,gv,hc37f,e1,e2,hs]
  ·exact o1 44 53
  ·exact gw 45 54 hc45f 1 nt
  ·exact gc 45 54 hc45f 46 55 fun _ hR=>(vA.next hR).cell (j:=5) (by omega)
  ·exact OpOk.gdCall 45 54 false true (b53) (fun _ _ h=>h) c45f hc45f _ (fun _=>rfl) fun ev w' v hR E pr hC=>by
    have e1:=E.eq pr 47 56;rw[hC]at e1;refine⟨40,#[.int .i64 n.role,.int .i64 1,.int .i64 3],by simp[go_sem,gv,e1,E.con,E.fn],?_⟩;rw[qb57];exact bS (n.role) (1) (3) _
  ·exact g1 45 54 hc45f 48 57 qb58
  ·exact oq rfl fun ev w' v hR E pr=>by
    have e1:=E.eq pr 45 54;have e2:=E.eq pr 49 58;rcases bq (b53) with hs|hs<;>simp[go_sem,E.con,qb59,gv,hc45f,e1,e2,hs]
  ·exact o1 50 59
  ·exact gw 51 60 hc51f 1 nt
  ·exact gc 51 60 hc51f 52 61 fun _ hR=>(vA.next hR).cell (j:=6) (by omega)
  ·exact gw 51 60 hc51f 3 nt
  ·exact OpOk.gdCall 51 60 false true (b59) (fun _ _ h=>h) c51f hc51f _ (fun _=>rfl) fun ev w' v hR E pr hC=>by
    have e1:=E.eq pr 53 62;have e2:=E.eq pr 54 63;rw[hC]at e1;rw[hC]at e2;refine⟨40,#[.int .i64 n.commit,.int .i64 0,.int .i64 (n.log.length:Int)],by simp[go_sem,gv,e1,e2,E.con,E.fn],?_⟩;rw[qb64];exact bS (n.commit) (0) ((n.log.length:Int)) _
  ·exact g1 51 60 hc51f 55 64 qb65
  ·exact oq rfl fun ev w' v hR E pr=>by
    have e1:=E.eq pr 51 60;have e2:=E.eq pr 56 65;rcases bq (b59) with hs|hs<;>simp[go_sem,E.con,qb66,gv,hc51f,e1,e2,hs]
 ·intro v w' hR hp
  obtain⟨_,_,_,_,_,_,_,_,_,_,_,_,_,_,_,_,_,_,_,_,_,_,_,_,_,_,_,_,_,_,_,_,_,_,_,_,_,_,_,_,_,_,_,_,_,_,_,_,_,_,_,_,_,_,_,_,_,p57,_⟩:=hp;replace p57:v 57=.bool b66:=p57;simp only[bF,Nat.zero_add,Nat.reduceAdd,p57,Act.put,sY,sZ,ss];have hbW:=rt _ _ _ hb hR;have vW:NdB w' w.heap.size n ⟨lo,lc,vo,vc,no,nc,mo,mc⟩:=vn vA hR;have hMW:=hM.next hR
  have eC:b66 = !(sI n):=by
   simp only[qb11,qb12,qb18,qb19,qb20,qb24,qb25,qb26,qb30,qb36,qb37,qb38,qb39,qb43,qb44,qb45,qb52,qb53,qb57,qb58,qb59,qb64,qb65,qb66,sI,oY]
   have e1:decide (n.term<bM n.log) = !(decide (bM n.log<=n.term)):=by
    rw[<-decide_not];exact decide_eq_decide.2 (by omega)
   rw[e1];simp only[bne,Bool.not_and,Bool.not_or,Bool.not_not,Bool.or_assoc]
  rw[eC];clear eC hb vA hM hR qb11 qb12 qb18 qb19 qb20 qb24 qb25 qb26 qb30 qb36 qb37 qb38 qb39 qb43 qb44 qb45 qb52 qb53 qb57 qb58 qb59 qb64 qb65 qb66;rcases bq (sI n) with hC|hC
  rotate_left
  ·rw[hC]
   have hr:dG n=false:=by simp[dG,K4,hC]
   go_wp2;go_ret;exact⟨by rw[hr];rfl,hbW⟩
  rw[hC,show (!true)=false from rfl]
  have hpe:1<=n.peers/\n.peers<=5:=by
   simp only[sI,Bool.and_eq_true]at hC;exact of_decide_eq_true hC.1
  have hB:Hid (dG n=(cB n && !((n.role==3)&&(n.term==0)))):=by show _ = _;simp only[dG,K4,hC,Bool.true_and]
  have hRo:1<=n.role/\n.role<=3:=by
   simp only[sI,Bool.and_eq_true]at hC;exact of_decide_eq_true hC.2.2.2.2.2.1
  clear hC
  go_wp2_with fail
  go_loopw [4] (fun x4 wr=>∃ k:Nat,k<=n.votes.length/\x4=.int .i64 (k:Int)/\bB n.peers 0 n.votes=bB n.peers (xE n.votes k) (n.votes.drop k)/\RB w' wr) (fun x _=>n.votes.length-(intOf x).toNat)
  case atStart=>exact⟨0,Nat.zero_le _,rfl,rfl,rr _⟩
  case round=>
   obtain⟨k,hk,rfl,hq,hRW⟩:=hrel;have vR:NdB wr w.heap.size n ⟨lo,lc,vo,vc,no,nc,mo,mc⟩:=vn vW hRW;have hMR:=hMW.next hRW;have hbR:=rt _ _ _ hbW hRW;clear vW hMW hbW;obtain⟨c0,c1,c2,c3,c4,c5,c6,c7,c8,c9⟩:=cN vR
   by_cases hlt:k<n.votes.length
   ·have hlt2:(k:Int)<(n.votes.length:Int):=by omega
    go_wp2_with fail
    clear c0 c1 c2 c3 c4 c5 c6 c7 c8 c9;have hd:RB wr wr.drew:=(Below.refl _ _).drew;replace hbR:=rt _ _ _ hbR hd;replace hRW:=rt _ _ _ hRW hd;replace vR:NdB wr.drew w.heap.size n ⟨lo,lc,vo,vc,no,nc,mo,mc⟩:=vn vR hd;replace hMR:=hMR.next hd;clear hd;obtain⟨b,o,e,_,hcl⟩:=hMR.v (fun h=>by have:=cO n.votes;rw[h]at this;simp at this;omega);simp only at e;subst e;have HV:Hid (∀ j,j<n.votes.length->wr.drew.cell? ⟨b,o+j,none⟩=some (.int .i64 (aT n.votes j))):=fun j hj=>hcl _ _ (fZ hj)
    have hk0:(0:Int)<=(k:Int):=by omega
    have htn:(k:Int).toNat=k:=by omega
    clear hcl;obtain⟨b81,qb81⟩:∃ b:Bool,b=(dS (n.peers) ((aT n.votes k))):=⟨_,rfl⟩
    obtain⟨b82,qb82⟩:∃ b:Bool,b=(!b81):=⟨_,rfl⟩
    obtain⟨c9f,hc9f⟩:∃ c:Bool,c=(true&&((b82)==false)):=⟨_,rfl⟩
    obtain⟨b85,qb85⟩:∃ b:Bool,b=(decide (0<(k:Int))):=⟨_,rfl⟩
    obtain⟨c12t,hc12t⟩:∃ c:Bool,c=(c9f&&((b85)==true)):=⟨_,rfl⟩
    have hw95:IntKind.i64.wrap ((k:Int)-1)=((k:Int)-1):=wi
    obtain⟨b98,qb98⟩:∃ b:Bool,b=(decide ((aT n.votes k)<=(aT n.votes (k-1)))):=⟨_,rfl⟩
    obtain⟨b99,qb99⟩:∃ b:Bool,b=((b85&&b98)):=⟨_,rfl⟩
    obtain⟨b100,qb100⟩:∃ b:Bool,b=((b82||b99)):=⟨_,rfl⟩
    refine bQ (by kernel_rfl) (by kernel_rfl) RB rr rt
     [isV (.pointer (some ⟨w.heap.size,7,none⟩)),isV (.slice (some ⟨b,o,none⟩) n.votes.length vc),isV (.int .i64 (k:Int)),isV (.pointer (some ⟨b,o+k,none⟩)),isV (.int .i64 (aT n.votes k)),isV (.pointer (some ⟨w.heap.size,1,none⟩)),isV (.int .i64 n.peers),isV (.bool b81),isV (.bool b82),isV (.bool b82),isV (gv c9f (.int .i64 (k:Int))),isV (gv c9f (.bool b85)),isV (gv c9f (.bool b85)),isV (gv c12t (.pointer (some ⟨w.heap.size,7,none⟩))),isV (gv c12t (.slice (some ⟨b,o,none⟩) n.votes.length vc)),isV (gv c12t (.int .i64 (k:Int))),isV (gv c12t (.pointer (some ⟨b,o+k,none⟩))),isV (gv c12t (.int .i64 (aT n.votes k))),isV (gv c12t (.pointer (some ⟨w.heap.size,7,none⟩))),isV (gv c12t (.slice (some ⟨b,o,none⟩) n.votes.length vc)),isV (gv c12t (.int .i64 (k:Int))),isV (gv c12t (.int .i64 ((k:Int)-1))),isV (gv c12t (.pointer (some ⟨b,o+(k-1),none⟩))),isV (gv c12t (.int .i64 (aT n.votes (k-1)))),isV (gv c12t (.bool b98)),isV (gv c9f (.bool b99)),isV (.bool b100)]
     ⟨iR,iR,iR,iR,iR,iR,iR,iR,iR,iR,iR,iR,iR,iR,iR,iR,iR,iR,iR,iR,iR,iR,iR,iR,iR,iR,iR,trivial⟩ rfl ?_ ?_
    ·refine⟨?_,?_,?_,?_,?_,?_,?_,?_,?_,?_,?_,?_,?_,?_,?_,?_,?_,?_,?_,?_,?_,?_,?_,?_,?_,?_,?_,trivial⟩
     ·exact ow 1
     ·exact oc 0 74 fun _ hR=>(vR.next hR).cell (j:=7) (by omega)
     ·exact ow 4
     ·exact oq rfl fun ev w9 v hR E pr=>by
       have e1:=E.eq pr 1 75;have e2:=E.eq pr 2 76;simp[go_sem,hlt2,hk0,htn,e1,e2]
     ·exact oq rfl fun ev w9 v hR E pr=>by
       have e1:=E.eq pr 3 77;have cc:=aB hR nl (HV.out k hlt);simp[go_sem,cc,e1]
     ·exact ow 1
     ·exact oc 5 79 fun _ hR=>(vR.next hR).cell (j:=1) (by omega)
     ·exact OpOk.ret _ (fun _=>rfl) fun ev w9 v hR E pr=>by
       have e1:=E.eq pr 4 78;have e2:=E.eq pr 6 80;refine⟨41,#[.int .i64 (aT n.votes k),.int .i64 n.peers],by simp[go_sem,gv,e1,e2,E.fn],?_⟩;rw[qb81];exact iX ((aT n.votes k)) (n.peers) hpe.1 hpe.2 _
     ·exact mQ 7 81 qb82
     ·exact o1 8 82
     ·exact gw 9 83 hc9f 4 nt
     ·exact g1 9 83 hc9f 10 84 qb85
     ·exact g1 9 83 hc9f 11 85 nt
     ·exact gw 12 86 hc12t 1 nt
     ·exact gc 12 86 hc12t 13 87 fun _ hR=>(vR.next hR).cell (j:=7) (by omega)
     ·exact gw 12 86 hc12t 4 nt
     ·exact OpOk.gd rr 12 86 true c9f (b85) (fun _ _ h=>h) c12t hc12t _ (fun _=>rfl) fun ev w9 v hR E pr hC=>by
       have e1:=E.eq pr 14 88;have e2:=E.eq pr 15 89;simp[go_sem,gv,hC,hc12t,hlt2,hk0,htn,e1,e2]
     ·exact OpOk.gd rr 12 86 true c9f (b85) (fun _ _ h=>h) c12t hc12t _ (fun _=>rfl) fun ev w9 v hR E pr hC=>by
       have e1:=E.eq pr 16 90;have cc:=aB hR nl (HV.out k hlt);simp[go_sem,gv,hC,hc12t,cc,e1]
     ·exact gw 12 86 hc12t 1 nt
     ·exact gc 12 86 hc12t 18 92 fun _ hR=>(vR.next hR).cell (j:=7) (by omega)
     ·exact gw 12 86 hc12t 4 nt
     ·exact g1 12 86 hc12t 20 94 hw95
     ·exact OpOk.gd rr 12 86 true c9f (b85) (fun _ _ h=>h) c12t hc12t _ (fun _=>rfl) fun ev w9 v hR E pr hC=>by
       have e1:=E.eq pr 19 93;have e2:=E.eq pr 21 95;have hkk:(0:Int)<(k:Int):=by (simp[hc12t,hc9f,qb85]at hC;omega)
       have hk1:(0:Int)<=(k:Int)-1:=by omega
       have hk4:(1:Int)<=(k:Int):=by omega
       have hk2:(k:Int)-1<(n.votes.length:Int):=by omega
       have hk3:((k:Int)-1).toNat=k-1:=by omega
       simp[go_sem,gv,hC,hc12t,hk1,hk2,hk3,hk4,e1,e2]
     ·exact OpOk.gd rr 12 86 true c9f (b85) (fun _ _ h=>h) c12t hc12t _ (fun _=>rfl) fun ev w9 v hR E pr hC=>by
       have e1:=E.eq pr 22 96;have cc:=aB hR nl (HV.out (k-1) (by omega));simp[go_sem,gv,hC,hc12t,cc,e1]
     ·exact g2 12 86 hc12t 17 91 23 97 qb98
     ·exact OpOk.gd rr 9 83 false true (b82) (fun _ _ h=>h) c9f hc9f _ (fun _=>rfl) fun ev w9 v hR E pr hC=>by
       have e1:=E.eq pr 12 86;have e2:=E.eq pr 24 98;rcases bq (b85) with hs|hs<;>simp[go_sem,gv,hC,hc9f,E.con,qb99,gv,hc12t,e1,e2,hs]
     ·exact oq rfl fun ev w9 v hR E pr=>by
       have e1:=E.eq pr 9 83;have e2:=E.eq pr 25 99;rcases bq (b82) with hs|hs<;>simp[go_sem,E.con,qb100,gv,hc9f,e1,e2,hs]
    ·intro v w9 hR hp
     obtain⟨_,_,_,_,_,_,_,_,_,_,_,_,_,_,_,_,_,_,_,_,_,_,_,_,_,_,p26,_⟩:=hp;replace p26:v 26=.bool b100:=p26;simp only[bF,Nat.zero_add,Nat.reduceAdd,p26,Act.put,sY,sZ,ss]
     have eV:b100 = !(decide (xE n.votes k<=aT n.votes k)&&dS n.peers (aT n.votes k)):=by
      rw[<-P0];simp only[qb81,qb82,qb85,qb98,qb99,qb100]
     have hbR9:=rt _ _ _ hbR hR;have hRW9:=rt _ _ _ hRW hR;rw[E4 _ _ hlt]at hq;rcases bq (decide (xE n.votes k<=aT n.votes k)&&dS n.peers (aT n.votes k)) with hs|hs
     rotate_left
     ·rw[<-Bool.and_assoc,hs,Bool.false_and]at hq
      have hr:dG n=false:=by rw[hB.out,zM hq];rfl
      rw[eV,hs];clear eV qb81 qb82 qb85 qb98 qb99 qb100 hs hq;go_wp2;go_ret;exact⟨by rw[hr];rfl,hbR9⟩
     rw[<-Bool.and_assoc,hs,Bool.true_and]at hq;have el:xE n.votes (k+1)=aT n.votes k+1:=by simp[xE]
     rw[<-el]at hq;rw[eV,hs];have hwk:IntKind.i64.wrap ((k:Int)+1)=(k:Int)+1:=wi
     clear eV qb81 qb82 qb85 qb98 qb99 qb100 hs el HV;go_wp2
     go_roundw
     case rel=>exact⟨k+1,by omega,by go_num,hq,by assumption⟩
     case measure=>simp[intOf];omega
   obtain rfl:k=n.votes.length:=by omega
   rw[zL _ _ nl]at hq;clear hk hlt;have ev0:n.votes.isEmpty=decide (n.votes.length=0):=by cases n.votes<;>simp
   have ex0:n.next.isEmpty=decide (n.next.length=0):=by cases n.next<;>simp
   have em0:n.mat.isEmpty=decide (n.mat.length=0):=by cases n.mat<;>simp
   by_cases h3:n.role=3
   rotate_left
   ·have hB2:Hid (dG n=cB n):=by show _ = _;rw[hB.out];simp[h3]
    clear hB
    have hk2:(n.role=1/\n.votes.length=0\/n.role=2)->cB n=(n.next.isEmpty&&n.mat.isEmpty):=fun hh=>by
     rcases hh with ⟨g1,g2⟩|g2
     ·simp[cB,g1,ev0,g2]
     ·simp[cB,g2,hq]
    have g3:(n.role != 3)=true:=by simp[h3]
    by_cases h1:n.role=1
    ·by_cases h2:n.votes.length=0
     rotate_left
     ·have er:Hid (cB n=false):=by show _ = _;simp[cB,h1,ev0,h2]
      have g1:(n.role==1)=true:=by simp[h1]
      have g2:(0:Int)<(n.votes.length:Int):=by omega
      clear hk2 h1 h2 h3;go_wp2;go_ret;exact⟨by rw[hB2.out,er.out];rfl,by assumption⟩
     ·have er:Hid (_ = _):=hk2 (.inl ⟨h1,h2⟩)
      have g1:(n.role==1)=true:=by simp[h1]
      have g2:¬ (0:Int)<(n.votes.length:Int):=by omega
      clear hk2 h1 h2 h3
      by_cases hx:n.next.length=0
      rotate_left
      ·have gx:((n.next.length:Int)==0)=false:=by rw[beq_eq_false_iff_ne];omega
       have e1:n.next.isEmpty=false:=by rw[ex0];simp[hx]
       clear hx;go_wp2;go_ret;exact⟨by rw[hB2.out,er.out,e1];rfl,by assumption⟩
      have gx:((n.next.length:Int)==0)=true:=by rw[beq_iff_eq];omega
      have e1:n.next.isEmpty=true:=by rw[ex0];simp[hx]
      clear hx
      by_cases hm:n.mat.length=0
      ·have gm:((n.mat.length:Int)==0)=true:=by rw[beq_iff_eq];omega
       have e2:n.mat.isEmpty=true:=by rw[em0];simp[hm]
       clear hm;go_wp2;go_ret;exact⟨by rw[hB2.out,er.out,e1,e2];rfl,by assumption⟩
      ·have gm:((n.mat.length:Int)==0)=false:=by rw[beq_eq_false_iff_ne];omega
       have e2:n.mat.isEmpty=false:=by rw[em0];simp[hm]
       clear hm;go_wp2;go_ret;exact⟨by rw[hB2.out,er.out,e1,e2];rfl,by assumption⟩
    ·have er:Hid (_ = _):=hk2 (.inr (by omega))
     have g1:(n.role==1)=false:=by simp[h1]
     clear hk2 h1 h3
     by_cases hx:n.next.length=0
     rotate_left
     ·have gx:((n.next.length:Int)==0)=false:=by rw[beq_eq_false_iff_ne];omega
      have e1:n.next.isEmpty=false:=by rw[ex0];simp[hx]
      clear hx;go_wp2;go_ret;exact⟨by rw[hB2.out,er.out,e1];rfl,by assumption⟩
     have gx:((n.next.length:Int)==0)=true:=by rw[beq_iff_eq];omega
     have e1:n.next.isEmpty=true:=by rw[ex0];simp[hx]
     clear hx
     by_cases hm:n.mat.length=0
     ·have gm:((n.mat.length:Int)==0)=true:=by rw[beq_iff_eq];omega
      have e2:n.mat.isEmpty=true:=by rw[em0];simp[hm]
      clear hm;go_wp2;go_ret;exact⟨by rw[hB2.out,er.out,e1,e2];rfl,by assumption⟩
     ·have gm:((n.mat.length:Int)==0)=false:=by rw[beq_eq_false_iff_ne];omega
      have e2:n.mat.isEmpty=false:=by rw[em0];simp[hm]
      clear hm;go_wp2;go_ret;exact⟨by rw[hB2.out,er.out,e1,e2];rfl,by assumption⟩
   have g1:(n.role==1)=false:=by simp[h3]
   have g3:(n.role != 3)=false:=by simp[h3]
   have hB2:Hid (dG n=(fK n && !(n.term==0))):=by show _ = _;rw[hB.out];simp[cB,h3,hq]
   clear hB h3 hRo hq ev0 ex0 em0
   by_cases h1:(n.next.length:Int)=n.peers
   rotate_left
   ·have hr:Hid (dG n=false):=by show _ = _;rw[hB2.out];simp[fK,h1]
    have g4:((n.next.length:Int) != n.peers)=true:=by simp[h1]
    clear h1;go_wp2;go_ret;exact⟨by rw[hr.out];rfl,by assumption⟩
   by_cases h2:(n.mat.length:Int)=n.peers
   rotate_left
   ·have hr:Hid (dG n=false):=by show _ = _;rw[hB2.out];simp[fK,h2]
    have g4:((n.next.length:Int) != n.peers)=false:=by simp[h1]
    have g5:((n.mat.length:Int) != n.peers)=true:=by simp[h2]
    clear h1 h2;go_wp2;go_ret;exact⟨by rw[hr.out];rfl,by assumption⟩
   have g4:((n.next.length:Int) != n.peers)=false:=by simp[h1]
   have g5:((n.mat.length:Int) != n.peers)=false:=by simp[h2]
   by_cases h0:n.term=0
   ·have hr:Hid (dG n=false):=by show _ = _;rw[hB2.out];simp[h0]
    have g6:(n.term==0)=true:=by simp[h0]
    clear h1 h2 h0;go_wp2;go_ret;exact⟨by rw[hr.out];rfl,by assumption⟩
   have g6:(n.term==0)=false:=by simp[h0]
   have hB3:Hid (dG n=(List.range n.next.length).all (cA n.log.length n.next n.mat)):=by show _ = _;rw[hB2.out,g6];simp[fK,h1,h2]
   clear hB2 h0;have hpl:Hid (n.peers=(n.next.length:Int)):=h1.symm;have hml:Hid (n.mat.length=n.next.length):=by show _ = _;omega
   clear h1 h2
   go_wp2_with fail
   go_wp2;clear g1 g3 g4 g5 g6 c0 c1 c2 c3 c4 c5 c6 c7 c8 c9;have hbx:RB wr wr:=rr _;generalize hwx:wr=W2 at hbR vR hMR hbx ⊢;clear hwx hbx;obtain⟨b,o,e,_,hcl⟩:=hMR.x (fun h=>by have:=cO n.next;have h2:=hpl.out;rw[h]at this;simp at this;omega);simp only at e;subst e;obtain⟨b2,o2,e,_,hcl2⟩:=hMR.m (fun h=>by have:=cO n.mat;have h2:=hpl.out;have h3:=hml.out;rw[h]at this;simp at this;omega);simp only at e;subst e;have HV:Hid (∀ k,k<n.next.length->W2.cell? ⟨b,o+k,none⟩=some (.int .i64 (aT n.next k))/\W2.cell? ⟨b2,o2+k,none⟩=some (.int .i64 (aT n.mat k))):=fun k hk=>⟨hcl _ _ (fZ hk),hcl2 _ _ (fZ (by rw[hml.out];exact hk))⟩
   clear hcl hcl2 hMR
   go_loopw [5] (fun x5 wr=>∃ k:Nat,k<=n.next.length/\x5=.int .i64 (k:Int)/\(∀ j,j<k->cA n.log.length n.next n.mat j=true)/\RB W2 wr) (fun x _=>n.next.length-(intOf x).toNat)
   case atStart=>exact⟨0,Nat.zero_le _,rfl,(fun j hj=>by omega),rr _⟩
   case round=>
    obtain⟨k,hk,rfl,hq,hRW⟩:=hrel;have vS:NdB wr w.heap.size n ⟨lo,lc,vo,vc,some ⟨b,o,none⟩,nc,some ⟨b2,o2,none⟩,mc⟩:=vn vR hRW;obtain⟨c0,c1,c2,c3,c4,c5,c6,c7,c8,c9⟩:=cN vS
    by_cases hlt:k<n.next.length
    rotate_left
    ·obtain rfl:k=n.next.length:=by omega
     have hge:¬ ((n.next.length:Int)<n.peers):=by have:=hpl.out;omega
     go_wp2;go_ret;exact⟨by rw[hB3.out,E5 hq];rfl,rt _ _ _ hbR hRW⟩
    have hlt2:(k:Int)<n.peers:=by have:=hpl.out;omega
    have hltx:(k:Int)<(n.next.length:Int):=by omega
    have hltm:(k:Int)<(n.mat.length:Int):=by have:=hml.out;omega
    have cv1:=aB hRW nl (HV.out k hlt).1;have cv2:=aB hRW nl (HV.out k hlt).2;have hno:cA n.log.length n.next n.mat k=false->(List.range n.next.length).all (cA n.log.length n.next n.mat)=false:=fun h=>O9 hlt h
    have hyes:cA n.log.length n.next n.mat k=true->∀ j,j<k+1->cA n.log.length n.next n.mat j=true:=fun h j hj=>by
     by_cases e:j=k
     ·rw[e];exact h
     ·exact hq j (by omega)
    have er:cA n.log.length n.next n.mat k=(dD (aT n.next k) 1 ((n.log.length:Int)+1)&&dD (aT n.mat k) 0 (n.log.length:Int)):=by
     simp only[cA,oY,<-Bool.decide_and];exact decide_eq_decide.2 (by omega)
    rw[er]at hno hyes;clear er hq;generalize aT n.next k=x at hno hyes cv1;generalize aT n.mat k=y at hno hyes cv2;have hno:Hid _:=hno;have hyes:Hid _:=hyes;have hwl:IntKind.i64.wrap ((n.log.length:Int)+1)=(n.log.length:Int)+1:=wi
    have hwk:IntKind.i64.wrap ((k:Int)+1)=(k:Int)+1:=wi
    go_wp2_with fail
    refine (bS x 1 ((n.log.length:Int)+1) _).mono ?_;rintro e w1 ⟨rfl,hb1⟩;replace cv2:=aB hb1 nl cv2;replace vS:=vn vS hb1;clear c0 c1 c2 c3 c4 c5 c6 c7 c8 c9 cv1;obtain⟨c0,c1,c2,c3,c4,c5,c6,c7,c8,c9⟩:=cN vS;have hbS:=rt _ _ _ hbR (rt _ _ _ hRW hb1);have hRS:=rt _ _ _ hRW hb1;rcases bq (dD x 1 ((n.log.length:Int)+1)) with h1|h1
    rotate_left
    ·have hf:=hno.out (by rw[h1];rfl)
     rw[h1];clear hno hyes;have hf:Hid _:=hf;go_wp2;go_ret;exact⟨by rw[hB3.out,hf.out];rfl,hbS⟩
    rw[h1]
    go_wp2_with fail
    refine (bS y 0 (n.log.length:Int) _).mono ?_;rintro e w2 ⟨rfl,hb2⟩;rcases bq (dD y 0 (n.log.length:Int)) with h2|h2
    rotate_left
    ·have hf:=hno.out (by rw[h1,h2];rfl)
     rw[h2];clear hno hyes;have hf:Hid _:=hf;go_wp2;go_ret;exact⟨by rw[hB3.out,hf.out];rfl,rt _ _ _ hbS hb2⟩
    have ht:=hyes.out (by rw[h1,h2];rfl);rw[h2];clear hno hyes h1 h2;go_wp2
    go_roundw
    case rel=>exact⟨k+1,by omega,by go_num,ht,rt _ _ _ hRS hb2⟩
    case measure=>simp[intOf];omega
end
section
open Go Go.RowKit
theorem rR{o:Oper}{ev:Operand->Value}{x y:Operand}{ao:Option Addr}{n c i:Nat}{w:World}(ho:o.op=.slice 24 x none (some y) none)(hx:ev x=.slice ao n c)(hy:ev y=.int .i64 (i:Int))(hi:i<=n)(hn:n<=c):(execOp ev o).run Tryz.prog w=.ok (.value (.slice ao i c)) w:=by
 unfold execOp;have h1:(i:Int)<=(c:Int):=by omega
 have h2:(0:Int)<=(i:Int):=by omega
 have h3:(i:Int).toNat=i:=by omega
 cases ao<;>simp[ho,hx,hy,go_sem,h1,h2,h3]
theorem rS:∀ a b:List En,dZ (a++b)=dZ a++dZ b
 | [],b=>rfl
 | e :: a,b=>by simp[dZ,rS a b]
theorem iI(l:List En)(i:Nat):dZ (l.take i)=(dZ l).take (i*2):=by
 by_cases h:i<=l.length
 ·have e:=rS (l.take i) (l.drop i)
  rw[List.take_append_drop]at e;have e2:(dZ (l.take i)).length=i*2:=by rw[dE,List.length_take,Nat.min_eq_left h]
  rw[e,<-e2,List.take_left]
 ·rw[List.take_of_length_le (by omega),List.take_of_length_le (by rw[dE];omega)]
theorem iJ(l:List En)(i:Nat):dZ (l.drop i)=(dZ l).drop (i*2):=by
 by_cases h:i<=l.length
 ·have e:=rS (l.take i) (l.drop i)
  rw[List.take_append_drop]at e;have e2:(dZ (l.take i)).length=i*2:=by rw[dE,List.length_take,Nat.min_eq_left h]
  rw[e,<-e2,List.drop_left]
 ·rw[List.drop_eq_nil_of_le (by omega),List.drop_eq_nil_of_le (by rw[dE];omega)]
  rfl
theorem LRow.take{w:World}{t:TypeId}{ao:Option Addr}{cs:List Value}(h:LRow w t ao cs)(k:Nat):LRow w t ao (cs.take k):=fun hc=>by
 obtain⟨b,o,e,ht,h2⟩:=h (fun q=>hc (by rw[q];simp));refine⟨b,o,e,ht,fun j v hj=>h2 j v ?_⟩;rw[List.getElem?_take]at hj
 split at hj
 ·exact hj
 ·cases hj
theorem LRow.drop{w:World}{t:TypeId}{b o:Nat}{cs:List Value}(h:LRow w t (some ⟨b,o,none⟩) cs)(k:Nat):LRow w t (some ⟨b,o+k,none⟩) (cs.drop k):=fun hc=>by
 obtain⟨b',o',e,ht,h2⟩:=h (fun q=>hc (by rw[q];simp));cases e;refine⟨b,o+k,rfl,ht,fun j v hj=>?_⟩;rw[List.getElem?_drop]at hj;have:=h2 _ _ hj;rw[Nat.add_assoc];exact this
theorem Q9{o:Oper}{ev:Operand->Value}{x y:Operand}{ao:Option Addr}{l:List En}{c i:Nat}{w:World}(ho:o.op=.slice 24 x (some y) none none)(hx:ev x=.slice ao l.length c)(hy:ev y=.int .i64 (i:Int))(hi:i<=l.length)(hn:l.length<=c)(hr:LRow w 47 ao (dZ l)):
  ∃ ao' c',(execOp ev o).run Tryz.prog w=.ok (.value (.slice ao' (l.drop i).length c')) w/\(l.drop i).length<=c'/\LRow w 47 ao' (dZ (l.drop i)):=by
 have h1:(i:Int)<=(c:Int):=by omega
 have h2:(0:Int)<=(i:Int):=by omega
 have h3:(i:Int).toNat=i:=by omega
 rw[List.length_drop];cases ao with
 | none=>
  refine⟨none,c-i,?_,by omega,fun hc=>?_⟩
  ·unfold execOp
   simp[ho,hx,hy,go_sem,h1,h2,h3,hi]
  ·obtain⟨b,o',e,_⟩:=hr (fun q=>hc (by rw[iJ,q];simp))
   cases e
 | some a=>
  refine⟨if c=i then some a else some (a.add (i*2)),c-i,?_,by omega,fun hc=>?_⟩
  ·unfold execOp
   simp[ho,hx,hy,go_sem,h1,h2,h3,hi]
  ·have hlt:i<l.length:=by
    rcases Nat.lt_or_ge i l.length with q|q
    ·exact q
    ·exfalso
     apply hc;rw[List.drop_eq_nil_of_le q];rfl
   obtain⟨b,o',e,_⟩:=hr (fun q=>hc (by rw[iJ,q];simp));cases e;rw[if_neg (by omega),Addr.add_mid,iJ];exact LRow.drop hr (i*2) (by rw[<-iJ];exact hc)
theorem pG{P:Program}{o:Oper}{ev:Operand->Value}{x y:Operand}{t:TypeId}{u v:Int}{w:World}(ho:o.op=.call { callee:=.builtin .min,args:=#[x,y],argTypes:=#[t,t] })(hx:ev x=.int .i64 u)(hy:ev y=.int .i64 v):(execOp ev o).run P w=.ok (.value (.int .i64 (min u v))) w:=by
 by_cases h:v<u
 ·have e:min u v=v:=by omega
  simp[execOp,ho,resolve,invoke,builtin,hx,hy,Builtin.min_,Builtin.min2,h,e]
 ·have e:min u v=u:=by omega
  simp[execOp,ho,resolve,invoke,builtin,hx,hy,Builtin.min_,Builtin.min2,h,e]
def SlE(l:List En)(v:Value)(w:World):Prop:=∃ ao c,v=.slice ao l.length c/\l.length<=c/\LRow w 47 ao (dZ l)
theorem SlE.rb{l:List En}(v:Value)(w w':World)(h:SlE l v w)(hb:RB w w'):SlE l v w':=by
 obtain⟨ao,c,e,hc,hr⟩:=h;exact⟨ao,c,e,hc,hr.next hb⟩
theorem CE{o:Oper}{ev:Operand->Value}{x y:Operand}{ao:Option Addr}{l:List En}{c i:Nat}{w:World}(ho:o.op=.slice 24 x (some y) none none)(hx:ev x=.slice ao l.length c)(hy:ev y=.int .i64 (i:Int))(hi:i<=l.length)(hn:l.length<=c)(hr:LRow w 47 ao (dZ l)):
  ∃ u w',(execOp ev o).run Tryz.prog w=.ok (.value u) w'/\RB w w'/\SlE (l.drop i) u w':=by
 obtain⟨ao',c',h0,h1,h2⟩:=Q9 ho hx hy hi hn hr;exact⟨_,w,h0,rr _,ao',c',rfl,h1,h2⟩
end
end Go.Proofs.YtbabakgjkloabaaGreatDoor
