/-
  Helpers: NdO, MsP, Sq3, Sq4, Sq5, Srv, LogT, Ordp, Plain.
-/
import Derived.Test.YtbabakgjkloabaaGreatDoorPack7
import Derived.Test.YtbabakgjkloabaaGreatDoorPack1
import Derived.Test.YtbabakgjkloabaaGreatDoorPack2
import Derived.Test.YtbabakgjkloabaaGreatDoorPack3
set_option linter.unusedVariables false
set_option linter.unusedSimpArgs false
namespace Go.Proofs.YtbabakgjkloabaaGreatDoor
section
open Go Go.RowKit
theorem ilc_lf (l:List Int) (j:Nat) (h:j<l.length):lf (ilc l) j=.int .i64 (iOf l j):=by
 have:=ilc_at h;simp[lf,this]
theorem elc_lf (l:List En) (j:Nat) (h:j<l.length*2):lf (elc l) j=nr (tOf l) (xOf l) j:=by
 have h2:=ecl_aux l (j / 2) (by omega);rcases Nat.mod_two_eq_zero_or_one j with q|q
 ·have e:j=j / 2*2:=by omega
  have:=h2.1;rw[<-e]at this;simp[lf,this,nr,q]
 ·have e:j=j / 2*2+1:=by omega
  have:=h2.2;rw[<-e]at this;simp[lf,this,nr,q]
where ecl_aux (l:List En) (k:Nat) (h:k<l.length):=elc_at (l:=l) (k:=k) h
def OwE (w:World) (base:Nat) (ao:Option Addr) (cap:Nat) (l:List En):Prop:=GOwn w base 47 2 ao l.length cap (lf (elc l))
def OwI (w:World) (base:Nat) (ao:Option Addr) (cap:Nat) (l:List Int):Prop:=GOwn w base 2 1 ao l.length cap (lf (ilc l))
theorem OwE.next {w w':World} {base:Nat} {ao:Option Addr} {cap:Nat} {l:List En} (h:OwE w base ao cap l) (hb:Below w.heap.size w w'):OwE w' base ao cap l:=GOwn.next h hb
theorem OwI.next {w w':World} {base:Nat} {ao:Option Addr} {cap:Nat} {l:List Int} (h:OwI w base ao cap l) (hb:Below w.heap.size w w'):OwI w' base ao cap l:=GOwn.next h hb
theorem OwE.row {w:World} {base:Nat} {ao:Option Addr} {cap:Nat} {l:List En} (h:OwE w base ao cap l):LRow w 47 ao (elc l):=GOwn.lrow h (elc_len l)
theorem OwI.row {w:World} {base:Nat} {ao:Option Addr} {cap:Nat} {l:List Int} (h:OwI w base ao cap l):LRow w 2 ao (ilc l):=GOwn.lrow h (by rw[ilc_len,Nat.mul_one])
abbrev blk (ao:Option Addr):Option Nat:=(Value.slice ao 0 0).ownBlock
structure NdO (w:World) (base:Nat) (n:Nd) (s:NdS):Prop where
 l:OwE w base s.lo s.lc n.log
 v:OwI w base s.vo s.vc n.votes
 x:OwI w base s.no s.nc n.next
 m:OwI w base s.mo s.mc n.mat
 vx:∀ b,blk s.vo=some b->blk s.no≠some b
 vm:∀ b,blk s.vo=some b->blk s.mo≠some b
 xm:∀ b,blk s.no=some b->blk s.mo≠some b
theorem NdO.next {w w':World} {base:Nat} {n:Nd} {s:NdS} (h:NdO w base n s) (hb:Below w.heap.size w w'):NdO w' base n s:=⟨h.l.next hb,h.v.next hb,h.x.next hb,h.m.next hb,h.vx,h.vm,h.xm⟩
theorem NdO.M {w:World} {base:Nat} {n:Nd} {s:NdS} (h:NdO w base n s):NdM w n s:=⟨h.l.row,h.v.row,h.x.row,h.m.row⟩
theorem cloneL_any (ao:Option Addr) (cap:Nat) (l:List En) (hn:l.length<=1048576) (w:World) {t:TypeId} (hr:LRow w t ao (elc l)):
  Calls Tryz.prog 70 #[.slice ao l.length cap] w fun e w'=>∃ ao' cap',e=.returned (.slice ao' l.length cap')/\OwE w' w.heap.size ao' cap' l/\RB w w':=by
 refine (cloneE_any ao l.length cap (tOf l) (xOf l) hn w ?_).mono ?_
 ·intro hp
  obtain⟨b,o,e,hc⟩:=hr.g (elc_len l) hp;exact⟨b,o,e,fun j hj=>by rw[hc j hj,elc_lf l j hj]⟩
 ·rintro e w' ⟨ao',cap',rfl,h,hb⟩
  exact⟨ao',cap',rfl,h.congr (fun j hj=>(elc_lf l j hj).symm),hb⟩
theorem cloneJ_any (ao:Option Addr) (cap:Nat) (l:List Int) (hn:l.length<=1048576) (w:World) {t:TypeId} (hr:LRow w t ao (ilc l)):
  Calls Tryz.prog 71 #[.slice ao l.length cap] w fun e w'=>∃ ao' cap',e=.returned (.slice ao' l.length cap')/\OwI w' w.heap.size ao' cap' l/\RB w w':=by
 refine (cloneI_any ao l.length cap (iOf l) hn w ?_).mono ?_
 ·intro hp
  obtain⟨b,o,e,hc⟩:=hr.g (m:=l.length*1) (by rw[ilc_len,Nat.mul_one]) hp;exact⟨b,o,e,fun j hj=>by rw[hc j hj,ilc_lf l j (by omega)]⟩
 ·rintro e w' ⟨ao',cap',rfl,h,hb⟩
  exact⟨ao',cap',rfl,h.congr (fun j hj=>(ilc_lf l j (by omega)).symm),hb⟩
theorem OwI.at {w:World} {base:Nat} {ao:Option Addr} {cap:Nat} {l:List Int} (h:OwI w base ao cap l) {b:Nat} (e:blk ao=some b):base<=b/\b<w.heap.size:=GOwn.at (x:=b) h (by cases ao<;>simp_all [blk,Value.ownBlock])
theorem blk_ne {w w':World} {base:Nat} {ao bo:Option Addr} {c d:Nat} {l k:List Int} (h:OwI w base ao c l) (h':OwI w' w.heap.size bo d k):∀ b,blk ao=some b->blk bo≠some b:=fun b e q=>by
 have h1:=(h.at e).2;have h2:=(h'.at q).1;omega
theorem OwI.from {w:World} {base base':Nat} {ao:Option Addr} {cap:Nat} {l:List Int} (h:OwI w base ao cap l) (hb:base'<=base):OwI w base' ao cap l:=GOwn.from h hb
theorem OwE.from {w:World} {base base':Nat} {ao:Option Addr} {cap:Nat} {l:List En} (h:OwE w base ao cap l) (hb:base'<=base):OwE w base' ao cap l:=GOwn.from h hb
theorem OwI.gr {w w':World} {base:Nat} {ao:Option Addr} {cap:Nat} {l:List Int} {row:Option Nat} {u:TypeId} (h:OwI w base ao cap l) (hg:w.grownBy w' row) (hx:∀ x,row=some x->Typed w x u) (hn:2≠u):OwI w' base ao cap l:=GOwn.gr h hg hx hn
theorem OwE.gr {w w':World} {base:Nat} {ao:Option Addr} {cap:Nat} {l:List En} {row:Option Nat} {u:TypeId} (h:OwE w base ao cap l) (hg:w.grownBy w' row) (hx:∀ x,row=some x->Typed w x u) (hn:47≠u):OwE w' base ao cap l:=GOwn.gr h hg hx hn
theorem NdO.gr {w w':World} {base:Nat} {n:Nd} {s:NdS} {row:Option Nat} {u:TypeId} (h:NdO w base n s) (hg:w.grownBy w' row) (hx:∀ x,row=some x->Typed w x u) (h1:47≠u) (h2:2≠u):NdO w' base n s:=⟨h.l.gr hg hx h1,h.v.gr hg hx h2,h.x.gr hg hx h2,h.m.gr hg hx h2,h.vx,h.vm,h.xm⟩
theorem NdB.put {W:World} {b:Nat} {n n':Nd} {s s':NdS} (h:NdB W b n s) (k:Nat) (hk:k<10) (v:Value) (e:(ndL n s).set k v=ndL n' s'):NdB (W.setCell ⟨b,k,none⟩ v) b n' s':=
 (VHas.set h k v).congr (fun j hj=>by
  rw[<-e]
  by_cases q:j=k
  ·subst q
   have:j<(ndL n s).length:=hk;simp only[lf,if_true,List.getD_eq_getElem?_getD,List.getElem?_set_self this,Option.getD_some]
  ·simp only[if_neg q,lf,List.getD_eq_getElem?_getD,List.getElem?_set_ne (fun r=>q r.symm)])
theorem wpList_nd {P:Program} {ops:Array Oper} {o:Oper} {rest:List Oper} {a:Act} {W:World} {Q:Exit->Act->World->Prop} (hgd:o.guard=none) (ty:TypeId) (x y:Operand) (ho:o.op=.store ty x y) (hd:o.dst=none) (b k:Nat) (v:Value) (hx:a.eval x=.pointer (some ⟨b,k,none⟩)) (hy:a.eval y=v) {n:Nd} {s:NdS} (n':Nd) (s':NdS) (hb:NdB W b n s) (hk:k<10) (hi:(P.info? ty).map (·.size)=some 1) (hvc:v.cells=#[v]) (hv:v.oneCell'=true) (e:(ndL n s).set k v=ndL n' s')
  (h:∀ W',NdB W' b n' s'->W.grownBy W' (some b)->wpList P ops Q rest a W'):wpList P ops Q (o :: rest) a W:=
 wpList_cell hgd ty x y ho hd b k v hx hy hb hk hi hvc hv fun W' e'=>by
  subst e';exact h _ (NdB.put hb k hk v e) (gr_setCell W b k v)
abbrev msL (m:Ms) (eo:Option Addr) (ec:Nat):List Value:=[.int .i64 m.kind,.int .i64 m.term,.int .i64 m.frm,.int .i64 m.to,.int .i64 m.index,.int .i64 m.lterm,.slice eo m.ents.length ec,.int .i64 m.commit,.bool m.yes]
abbrev msV (m:Ms) (eo:Option Addr) (ec:Nat):Value:=.agg #[.int .i64 m.kind,.int .i64 m.term,.int .i64 m.frm,.int .i64 m.to,.int .i64 m.index,.int .i64 m.lterm,.slice eo m.ents.length ec,.int .i64 m.commit,.bool m.yes]
abbrev MsB (w:World) (b:Nat) (m:Ms) (eo:Option Addr) (ec:Nat):Prop:=VHas w b 29 9 (lf (msL m eo ec))
theorem msB_new (w:World) (m:Ms) (eo:Option Addr) (ec:Nat):MsB (w.alloc (.cells (msL m eo ec).toArray 29)) w.heap.size m eo ec:=box_new w (msL m eo ec) 29
theorem exec_ms {o:Oper} {ev:Operand->Value} {x:Operand} {b:Nat} {W:World} {m:Ms} {eo:Option Addr} {ec:Nat} (ho:o.op=.load 29 x) (hx:ev x=.pointer (some ⟨b,0,none⟩)) (h:MsB W b m eo ec):(execOp ev o).run Tryz.prog W=.ok (.value (msV m eo ec)) W:=by
 obtain⟨c0,c1,c2,c3,c4,c5,c6,c7,c8⟩:=h.c9;simp[lf]at c0 c1 c2 c3 c4 c5 c6 c7 c8;unfold execOp;simp[ho,hx,go_sem,c0,c1,c2,c3,c4,c5,c6,c7,c8]
abbrev ms0:Ms:=⟨0,0,0,0,0,0,[],0,false⟩
structure MsM (w:World) (m:Ms) (eo:Option Addr) (ec:Nat):Prop where
 e:LRow w 47 eo (elc m.ents)
 c:m.ents.length<=ec
theorem MsM.next {w w':World} {m:Ms} {eo:Option Addr} {ec:Nat} (h:MsM w m eo ec) (hb:Below w.heap.size w w'):MsM w' m eo ec:=⟨h.e.next hb,h.c⟩
theorem cN {W:World} {b:Nat} {n:Nd} {lo:Option Addr} {lc:Nat} {vo:Option Addr} {vc:Nat} {no:Option Addr} {nc:Nat} {mo:Option Addr} {mc:Nat} (h:NdB W b n ⟨lo,lc,vo,vc,no,nc,mo,mc⟩):W.cell? ⟨b,0,none⟩=some (.int .i64 n.id)/\W.cell? ⟨b,1,none⟩=some (.int .i64 n.peers)/\W.cell? ⟨b,2,none⟩=some (.int .i64 n.term)/\W.cell? ⟨b,3,none⟩=some (.int .i64 n.vote)/\W.cell? ⟨b,4,none⟩=some (.slice lo n.log.length lc)/\W.cell? ⟨b,5,none⟩=some (.int .i64 n.role)/\W.cell? ⟨b,6,none⟩=some (.int .i64 n.commit)/\W.cell? ⟨b,7,none⟩=some (.slice vo n.votes.length vc)/\W.cell? ⟨b,8,none⟩=some (.slice no n.next.length nc)/\W.cell? ⟨b,9,none⟩=some (.slice mo n.mat.length mc):=VHas.c10 h
theorem cM {W:World} {b:Nat} {m:Ms} {eo:Option Addr} {ec:Nat} (h:MsB W b m eo ec):W.cell? ⟨b,0,none⟩=some (.int .i64 m.kind)/\W.cell? ⟨b,1,none⟩=some (.int .i64 m.term)/\W.cell? ⟨b,2,none⟩=some (.int .i64 m.frm)/\W.cell? ⟨b,3,none⟩=some (.int .i64 m.to)/\W.cell? ⟨b,4,none⟩=some (.int .i64 m.index)/\W.cell? ⟨b,5,none⟩=some (.int .i64 m.lterm)/\W.cell? ⟨b,6,none⟩=some (.slice eo m.ents.length ec)/\W.cell? ⟨b,7,none⟩=some (.int .i64 m.commit)/\W.cell? ⟨b,8,none⟩=some (.bool m.yes):=VHas.c9 h
theorem wB {P:Program} {o:Oper} {ops:Array Oper} {rest:List Oper} {a:Act} {W:World} {Q:Exit->Act->World->Prop} (ty:TypeId) (x y:Operand) (b:Nat) (vs:List Value) {t:TypeId} {f:Nat->Value} (hb:VHas W b t vs.length f)
  (h:∀ W',VHas W' b t vs.length (lf vs)->W.grownBy W' (some b)->wpList P ops Q rest a W') (hgd:o.guard=none:=by rfl) (ho:o.op=.store ty x y:=by rfl) (hd:o.dst=none:=by rfl) (hx:a.eval x=.pointer (some ⟨b,0,none⟩):=by simp[go_sem]) (hy:a.eval y=.agg vs.toArray:=by simp[go_sem]) (hi:(P.info? ty).map (·.size)=some vs.length:=by kernel_rfl) (hv:(vs.all fun v=>v.oneCell')=true:=by kernel_rfl):wpList P ops Q (o :: rest) a W:=
 wpList_store_box hgd ty x y ho hd b vs hx hy hb hi (oneAll hv) h
theorem wC {P:Program} {ops:Array Oper} {o:Oper} {rest:List Oper} {a:Act} {W:World} {Q:Exit->Act->World->Prop} (ty:TypeId) (x y:Operand) (b k:Nat) (v:Value) {t:TypeId} {n:Nat} {f:Nat->Value} (hb:VHas W b t n f)
  (h:∀ W',W'=W.setCell ⟨b,k,none⟩ v->wpList P ops Q rest a W') (hgd:o.guard=none:=by rfl) (ho:o.op=.store ty x y:=by rfl) (hd:o.dst=none:=by rfl) (hx:a.eval x=.pointer (some ⟨b,k,none⟩):=by simp[go_sem]) (hy:a.eval y=v:=by simp[go_sem]) (hk:k<n:=by omega) (hi:(P.info? ty).map (·.size)=some 1:=by kernel_rfl) (hvc:v.cells=#[v]:=by kernel_rfl) (hv:v.oneCell'=true:=by kernel_rfl):wpList P ops Q (o :: rest) a W:=
 wpList_cell hgd ty x y ho hd b k v hx hy hb hk hi hvc hv h
theorem wN {P:Program} {ops:Array Oper} {o:Oper} {rest:List Oper} {a:Act} {W:World} {Q:Exit->Act->World->Prop} (ty:TypeId) (x y:Operand) (b k:Nat) (v:Value) {n:Nd} {s:NdS} (n':Nd) (s':NdS) (hb:NdB W b n s)
  (h:∀ W',NdB W' b n' s'->W.grownBy W' (some b)->wpList P ops Q rest a W') (hgd:o.guard=none:=by rfl) (ho:o.op=.store ty x y:=by rfl) (hd:o.dst=none:=by rfl) (hx:a.eval x=.pointer (some ⟨b,k,none⟩):=by simp[go_sem]) (hy:a.eval y=v:=by simp[go_sem]) (hk:k<10:=by omega) (hi:(P.info? ty).map (·.size)=some 1:=by kernel_rfl) (hvc:v.cells=#[v]:=by kernel_rfl) (hv:v.oneCell'=true:=by kernel_rfl) (e:(ndL n s).set k v=ndL n' s':=by kernel_rfl):wpList P ops Q (o :: rest) a W:=
 wpList_nd hgd ty x y ho hd b k v hx hy n' s' hb hk hi hvc hv e h
end
section
open Go.RowKit
theorem l11Server_any (i p:Int) (h1:1<=p) (h2:p<=5) (w:World):Calls Tryz.prog 41 #[.int .i64 i,.int .i64 p] w fun e w'=>e=.returned (.bool (inB i 0 (p-1)))/\w'=w:=by
 have hw:IntKind.wrap .i64 (p-1)=p-1:=by rw[IntKind.wrap_i64];omega
 go_enter Tryz.func41,Tryz.ntmps41
 go_wp2_with fail
 refine (l1In_any i 0 (p-1) _).mono ?_;rintro e w1 ⟨rfl,rfl⟩;go_wp2;go_ret;exact⟨rfl,rfl⟩
end
section
open Go.RowKit
attribute [local go_sem ↓] Go.wp_at_zero Go.wp_at_succ
theorem l10Last_any (ao:Option Addr) (n cap:Nat) (T:Nat->Int) (X:Nat->ByteArray) (hn:n<=9223372036854775807) (w:World) (hr:NRow w ao n T X):
  Calls Tryz.prog 43 #[.slice ao n cap] w fun e w'=>e=.returned (.int .i64 (lastT n T))/\w'=w:=by
 unfold lastT
 by_cases h0:n=0
 ·subst h0
  rw[if_pos rfl];go_enter Tryz.func43,Tryz.ntmps43;go_wp2;go_ret;exact⟨rfl,rfl⟩
 ·rw[if_neg h0]
  obtain⟨b,o,rfl,c0,c1⟩:=hr (n-1) (by omega);have hi:((n:Int)-1).toNat=n-1:=by omega
  have hn1:¬ ((n:Int)=0):=by omega
  have hn2:(0:Int)<=(n:Int)-1:=by omega
  have hn3:(n:Int)-1<(n:Int):=by omega
  go_enter Tryz.func43,Tryz.ntmps43;go_wp2;go_ret;exact⟨rfl,rfl⟩
end
section
open Go
section
variable {P:Program} {ops:Array Oper} {Q:Exit->Act->World->Prop}
def putOkB (ops:Array Oper) (kx:Nat) (early keep:List Nat):Bool:=
 !keep.contains kx&&(List.range ops.size).all fun i=>match ops[i]? with
  | none=>true
  | some o=>o.guard.isNone&&(i==kx||(if early.contains i then (decide (i<kx)&&(List.range (kx+1)).any fun j=>decide (i<j)&&((j==kx||early.contains j)&&match ops[j]? with|none=>false|some p=>waitsB p i)) else keep.contains i))
set_option maxHeartbeats 1000000 in
theorem region_put {id:Nat} {a0:Act} {w0:World} (hm:P.follows .mixedOrders=true) (hok:ordersOk ops=true) (kx:Nat) (early keep:List Nat) (hmid:putOkB ops kx early keep=true) (hkx:Nat.blt kx ops.size=true)
  (Rx:World->World->Prop) (Post:World->Prop) (hPost:∀ w w',Post w->RB w w'->Post w') (l:List (Value->World->Prop)) (hPr:allMono RB l)
  (hkeep:∀ i,i∈keep->∀ v w w',prAt l i v w->Rx w w'->prAt l i v w')
  (hearly:∀ i,i∈early->∀ o,ops[i]?=some o->OpOk P ops a0 w0.drew RB (prAt l) i o) (hlate:∀ i,i<ops.size->i≠kx->i∉early->∀ o,ops[i]?=some o->LateOk P ops a0 w0.drew Post (prAt l) keep i o)
  (o9:Oper) (ho9:ops[kx]?=some o9) (hd9:o9.dst=none)
  (hstore:∀ (ev:Operand->Value) (w':World) (v:Nat->Value),RB w0.drew w'->EvOk ops a0 o9 v ev->(∀ j,j<ops.size->waitsB o9 j=true->prAt l j (v j) w')->∃ w'',(execOp ev o9).run P w'=.ok .skip w''/\Rx w' w''/\Post w'')
  (hend:∀ v w'',Post w''->(∀ i,i∈keep->i<ops.size->i≠kx->prAt l i (v i) w'')->Q .normal (putL v 0 ops.toList a0) w''):(Code.region id ops true).wp P Q a0 w0:=by
 have hkx':kx<ops.size:=Nat.le_of_ble_eq_true hkx;simp only[putOkB,Bool.and_eq_true,List.all_eq_true,List.mem_range]at hmid;obtain⟨hkk,hmid⟩:=hmid;have hkk':kx∉keep:=by simpa using hkk
 have guardN:∀ (i:Nat) (o:Oper),ops[i]?=some o->o.guard=none:=fun i o ho=>by
  have hil:i<ops.size:=(Array.getElem?_eq_some_iff.1 ho).1;have:=hmid i hil;rw[ho]at this;simp only[Bool.and_eq_true,Option.isNone_iff_eq_none]at this;exact this.1
 have earlyIs:∀ i,i∈early->i<ops.size->i≠kx->i<kx/\∃ j p,i<j/\j<=kx/\(j=kx\/j∈early)/\ops[j]?=some p/\waitsFor p i:=fun i hE hi hne=>by
  have hoi:ops[i]?=some ops[i]:=by simp
  have:=hmid i hi;rw[hoi]at this;simp only[Bool.and_eq_true,Bool.or_eq_true,beq_iff_eq,hne,false_or]at this;have h2:=this.2;rw[if_pos (by simpa using hE)]at h2;simp only[Bool.and_eq_true,decide_eq_true_eq,List.any_eq_true,List.mem_range,Bool.or_eq_true,beq_iff_eq]at h2;obtain⟨h3,j,hj,hij,hjk,hwj⟩:=h2;refine⟨h3,j,?_⟩;cases hp:ops[j]? with
  | none=>rw[hp]at hwj;cases hwj
  | some p=>
   rw[hp]at hwj;exact⟨p,hij,by omega,hjk.imp (fun q=>q) (by simp),rfl,waitsB_for hwj⟩
 have earlyD:∀ (D:Nat->Bool),(∀ i o j,ops[i]?=some o->D i=true->waitsFor o j->D j=true)->D kx=true->∀ n i,i+n=kx->i∈early->i<ops.size->D i=true:=by
  intro D hC hDx n
  induction n using Nat.strongRecOn with
  | ind n ih=>
   intro i hin hE hi
   by_cases hne:i=kx
   ·rw[hne];exact hDx
   obtain⟨_,j,p,hij,hjk,hjE,hp,hwj⟩:=earlyIs i hE hi hne;refine hC j p i hp ?_ hwj;rcases hjE with rfl|hjE
   ·exact hDx
   ·exact ih (kx-j) (by omega) j (by omega) hjE (by omega)
 let Inv:(Nat->Bool)->(Nat->Value)->World->Prop:=fun D v w=>
  (∀ i o j,ops[i]?=some o->D i=true->waitsFor o j->D j=true) ∧
  (if D kx=true then Post w/\∀ i,i∈keep->i≠kx->D i=true->prAt l i (v i) w else RB w0.drew w/\∀ i,i≠kx->D i=true->prAt l i (v i) w)
 refine region_inv hm hok Inv ⟨fun _ _ _ _ h=>(Bool.noConfusion h),?_⟩ ?_ ?_
 ·simp only[Bool.false_eq_true,if_false]
  exact⟨RB.refl _,fun _ _ h=>h.elim⟩
 ·intro i o ho a D v w hDi hDw hI hE
  obtain⟨hC,hI⟩:=hI;have hil:i<ops.size:=(Array.getElem?_eq_some_iff.1 ho).1;rw[if_pos (by unfold Region.wanted;rw[guardN i o ho])]
  have hC':∀ i' o' j,ops[i']?=some o'->(if i'=i then true else D i')=true->waitsFor o' j->(if j=i then true else D j)=true:=fun i' o' j ho' hd hw=>by
   by_cases hji:j=i
   ·simp[hji]
   ·simp only[hji,if_false]
    by_cases hii:i'=i
    ·subst hii
     rw[ho]at ho';cases ho';exact hDw j hw
    ·simp only[hii,if_false]at hd
     exact hC i' o' j ho' hd hw
  by_cases hix:i=kx
  ·subst hix
   have ho':o=o9:=by rw[ho9]at ho;exact (Option.some.inj ho).symm
   subst ho';rw[if_neg (by rw[hDi];simp)]at hI;obtain⟨w'',hr,h1,h2⟩:=hstore a.eval w v hI.1 hE (fun j hj hw=>hI.2 j (fun q=>by have:=(ordersOk_spec hok ho).1 j (waitsB_for hw);omega) (hDw j (waitsB_for hw)));unfold Oper.wp;rw[hr];simp only[Oper.upon,hd9];refine⟨undef,by simp[Act.put],hC',?_⟩;dsimp only;rw[if_pos (by simp)];refine⟨h2,fun k hk hki hdk=>?_⟩;simp only[hki,if_false]at hdk ⊢;exact hkeep k hk _ _ _ (hI.2 k hki hdk) h1
  ·have hxe:(if kx=i then true else D kx)=D kx:=if_neg (fun q=>hix q.symm)
   by_cases hE':i∈early
   ·have hDx:D kx=false:=by
     rcases Bool.eq_false_or_eq_true (D kx) with q|q
     ·exfalso
      have h1:=(earlyIs i hE' hil hix).1;have:=earlyD D hC q (kx-i) i (by omega) hE' hil;rw[hDi]at this;cases this
     ·exact q
    rw[if_neg (by rw[hDx];simp)]at hI
    have hO:=hearly i hE' o ho a w v Q hI.1 (fun j p d hj hd hlt hwj=>hE.at_ j d (by rw[hj];exact hd) (waitsB_iff.2 hwj) hlt) (fun j hj hwj=>hI.2 j (fun q=>by have h1:=(ordersOk_spec hok ho).1 j hwj;have h2:=(earlyIs i hE' hil hix).1;omega) (hDw j hwj)) (fun d hno=>by
     have:noDstB ops d=true:=by
      unfold noDstB;rw[Array.all_eq_true'];intro p hp;obtain⟨j,hj⟩:=Array.mem_iff_getElem?.1 hp;simpa using hno j p hj
     exact hE.old d this)
    rw[if_pos (by unfold Region.wanted;rw[guardN i o ho])]at hO;refine Oper.wp_mono ?_ hO;rintro a' w' ⟨u,e,h1,h2⟩;refine⟨u,e,hC',?_⟩;dsimp only;rw[if_neg (by rw[hxe,hDx];simp)];refine⟨RB.trans _ _ _ hI.1 h1,fun k hk hdk=>?_⟩
    by_cases hki:k=i
    ·subst hki;simp only[if_true];exact h2
    ·simp only[hki,if_false]at hdk ⊢
     exact allMono_at hPr k _ _ _ (hI.2 k hk hdk) h1
   ·have hkp:i∈keep:=by
     have:=hmid i hil;rw[ho]at this;simp only[Bool.and_eq_true,Bool.or_eq_true,beq_iff_eq,hix,false_or]at this;have h2:=this.2;rw[if_neg (by simpa using hE')]at h2;simpa using h2
    have hpr:∀ j,j∈keep->waitsB o j=true->(j≠kx->prAt l j (v j) w):=fun j hj hw hjk=>by
     have hd:=hDw j (waitsB_for hw)
     split at hI
     ·exact hI.2 j hj hjk hd
     ·exact hI.2 j hjk hd
    obtain⟨u,w',hr,h1,h2⟩:=hlate i hil hix hE' o ho a.eval w v (by
     split at hI
     ·exact .inr hI.1
     ·exact .inl hI.1) hE (fun j hj hw=>by
      by_cases hjk:j=kx
      ·exact absurd (hjk ▸ hj) hkk'
      ·exact hpr j hj hw hjk)
    unfold Oper.wp;rw[hr];refine⟨u,rfl,hC',?_⟩;dsimp only
    split at hI
    ·next hDx=>
     rw[if_pos (by rw[hxe];exact hDx)];refine⟨hPost _ _ hI.1 h1,fun k hk hkk hdk=>?_⟩
     by_cases hki:k=i
     ·subst hki;simp only[if_true];exact h2
     ·simp only[hki,if_false]at hdk ⊢
      exact allMono_at hPr k _ _ _ (hI.2 k hk hkk hdk) h1
    ·next hDx=>
     rw[if_neg (by rw[hxe];exact hDx)];refine⟨RB.trans _ _ _ hI.1 h1,fun k hkk hdk=>?_⟩
     by_cases hki:k=i
     ·subst hki;simp only[if_true];exact h2
     ·simp only[hki,if_false]at hdk ⊢
      exact allMono_at hPr k _ _ _ (hI.2 k hkk hdk) h1
 ·intro D v w hall hI
  obtain⟨_,hI⟩:=hI;rw[if_pos (hall _ hkx')]at hI;exact hend v w hI.1 (fun i hi hlt hne=>hI.2 i hi hne (hall i hlt))
end
section
variable {P:Program} {ops:Array Oper} {Q:Exit->Act->World->Prop}
theorem plain_all {id:Nat} {a0:Act} {w0:World} (hok:ordersOk ops=true) (R:World->World->Prop) (hR0:∀ w,R w w) (hRt:∀ u v w,R u v->R v w->R u w) (l:List (Value->World->Prop)) (hPr:allMono R l) (hll:l.length=ops.size)
  (hstep:allOk P ops a0 w0 R (prAt l) 0 ops.toList)
  (hend:∀ v w',R w0 w'->allPr v w' 0 l->Q .normal (putL v 0 ops.toList a0) w'):(Code.region id ops false).wp P Q a0 w0:=by
 refine wp_region_list ?_
 have key:∀ (rest:List Oper) (i:Nat) (a:Act) (w:World) (v:Nat->Value),(∀ j,rest[j]?=ops[i+j]?)->i+rest.length=ops.size->R w0 w->Fr ops a0 (fun j=>decide (j<i)) v a->(∀ j,j<i->prAt l j (v j) w)->wpList P ops Q rest a w:=by
  intro rest
  induction rest with
  | nil=>
   intro i a w v hr hi hR hF hP;have hi':i=ops.size:=by simpa using hi
   subst hi';have h2:=putL_fr hok v a0 ops.toList 0 a0 (fun k _=>by simp) ((Fr.init a0 v).congr (fun j _=>by simp) (fun _ _ _=>rfl));have h1:Fr ops a0 (fun k=>decide (k<0+ops.toList.length)) v a:=hF.congr (fun j hj=>by simp[hj]) (fun _ _ _=>rfl);refine wpList_nil ?_;rw[h1.uniq h2];exact hend v w hR (allPr_of l 0 fun j hj=>by rw[Nat.zero_add];exact hP j (by omega))
  | cons o rest ih=>
   intro i a w v hr hi hR hF hP;have ho:ops[i]?=some o:=by have:=hr 0;simpa using this.symm
   have hil:i<ops.size:=(Array.getElem?_eq_some_iff.1 ho).1;have hO:=allOk_at hstep i o (by simpa using ho);rw[Nat.zero_add]at hO;have hsp:=ordersOk_spec hok ho
   have hS:=hO a w v Q hR (fun j p d hj hd hlt hwj=>by
    have:=hF.done j p d hj (by simp[hsp.1 j hwj]) hd hlt
    simp[Act.eval,Array.getD_eq_getD_getElem?,this]) (fun j hj hwj=>hP j (hsp.1 j hwj)) (fun d hno=>by
    have:=hF.rest d fun j p hj _=>hno j p hj
    simp[Act.eval,Array.getD_eq_getD_getElem?,this])
   have next:∀ u w',R w w'->prAt l i u w'->wpList P ops Q rest (a.put o.dst u) w':=fun u w' hR' hu'=>by
    refine ih (i+1) _ _ (fun k=>if k=i then u else v k) (fun j=>by
     have:=hr (j+1);simp only[List.getElem?_cons_succ]at this
     rw[this];congr 1;omega) (by simp at hi;omega) (hRt _ _ _ hR hR') ?_ ?_
    ·refine (hF.put hok ho (by simp) u).congr (fun j hj=>?_) (fun _ _ _=>rfl)
     by_cases hji:j=i
     ·simp[hji]
     ·simp only[hji,if_false];rw[decide_eq_decide];omega
    ·intro j hj
     by_cases hji:j=i
     ·subst hji;simp only[if_true];exact hu'
     ·simp only[hji,if_false]
      exact allMono_at hPr j _ _ _ (hP j (by omega)) hR'
   refine wpList_step fun K hK=>?_
   split
   ·rename_i hwt
    rw[if_pos hwt]at hS;exact Oper.wp_mono (fun a' w' ⟨u,e,h1,h2⟩=>by rw[e];exact hK _ _ (next u w' h1 h2)) hS
   ·rename_i hwt
    rw[if_neg hwt]at hS;exact hK _ _ (next undef w (hR0 w) hS)
 exact key ops.toList 0 a0 w0 (fun _=>undef) (fun j=>by simp) (by simp) (hR0 _) ((Fr.init a0 _).congr (fun j _=>by simp) (fun _ _ _=>rfl)) (fun j hj=>by omega)
end
end
end Go.Proofs.YtbabakgjkloabaaGreatDoor
