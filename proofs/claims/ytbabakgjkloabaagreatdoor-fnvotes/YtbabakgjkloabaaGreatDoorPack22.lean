/-
  Helpers: InsI, VodP, Vod, Ordt.
-/
import Derived.Lib.AppendZerosOnto
import Derived.Lib.Overlaps
import Derived.Laws.Externs
import Derived.Lib.Walk
import Derived.ChangeKeysEq
import Derived.Test.YtbabakgjkloabaaGreatDoorPack21
set_option linter.unusedVariables false
set_option linter.unusedSimpArgs false
set_option maxRecDepth 100000
set_option maxHeartbeats 16000000
namespace Go.Proofs.YtbabakgjkloabaaGreatDoor
section
open Go Go.RowKit
attribute [local go_sem ↓] Go.wp_at_zero Go.wp_at_succ
def jX(l:List Int)(i:Nat)(x:Int):List Int:=l.take i++x :: l.drop i
theorem lF{l:List Int}{i:Nat}(x:Int)(h:i<=l.length):(jX l i x).length=l.length+1:=by simp[jX];omega
theorem sW(l:List Int):cV (lf (cU l)) (l.length*1)=cU l:=by
 have hl:(cU l).length=l.length*1:=by rw[cO,Nat.mul_one]
 refine List.ext_getElem? (fun j=>?_)
 by_cases hj:j<l.length*1
 ·rw[dH hj]
  have h2:j<(cU l).length:=by omega
  simp[lf,List.getD_eq_getElem?_getD,h2]
 ·rw[List.getElem?_eq_none (by rw[bR];omega),List.getElem?_eq_none (by omega)]
theorem OwI.blockAt{w:World}{base g cap:Nat}{l:List Int}(h:OwI w base (some ⟨g,0,none⟩) cap l):∃ C:List Value,w.heap[g]?=some (.cells C.toArray 2 (0,0))/\C.length=cap/\l.length<=cap/\cap<=maxLen/\C.take l.length=cU l/\base<=g:=by
 obtain⟨_,q⟩:=h;rcases q with ⟨e,_⟩|⟨b,c,cur,e,hb,hh,h1,h2,h3,h4⟩
 ·cases e
 ·cases e
  rw[sW]at h4;refine⟨cur.toList,by simpa using hh,by simpa using h3,h1,h2,by first|(simpa using h4)|(simpa using h4.symm),hb⟩
theorem OwI.ofBlock{w:World}{base g cap:Nat}{l:List Int}{C:List Value}(hh:w.heap[g]?=some (.cells C.toArray 2 (0,0)))(hc:C.length=cap)(hl:l.length<=cap)(hm:cap<=maxLen)(ht:C.take l.length=cU l)(hb:base<=g):OwI w base (some ⟨g,0,none⟩) cap l:=by
 unfold OwI GOwn;refine⟨by rw[bR],.inr ⟨g,cap,_,rfl,hb,hh,hl,hm,by simp[hc],?_⟩⟩;rw[sW]
 first
 | simpa using ht
 | simpa using ht.symm
theorem CB{w:World}{g n:Nat}{C S:List Value}(ty:TypeId)(dLen dCap:Nat)(ad:Addr)(sLen sCap:Nat)(hg:w.heap[g]?=some (.cells C.toArray 2 (0,0)))(hk:S.length=Nat.min sLen dLen)(hn:n+S.length<=C.length)
  (hsrc:∀ j v,S[j]?=some v->w.cell? (ad.add j)=some v) (h1:∀ v∈S,v.oneCell'=true):(Builtin.copy_ #[25,25] ty #[.slice (some ⟨g,n,none⟩) dLen dCap,.slice (some ad) sLen sCap]).run Tryz.prog w=.ok (goInt S.length) (w.setRow g (C.take n++S++C.drop (n+S.length)).toArray):=by
 have hsz:(Tryz.prog.info? 2).map (·.size)=some 1:=by kernel_rfl
 have hrun:=run_copy_row (P:=Tryz.prog) w 25 25 ty 2 g n dLen dCap ad sLen sCap C.toArray 2 S Tryz.underlying25 hsz hg hk hsrc (by rw[List.size_toArray];exact hn) h1;rw[hrun,List.toList_toArray]
theorem G7{w:World}{o:Oper}{a:Act}{R:Act->World->Prop}{Q:Exit->Act->World->Prop}(d s:Operand)(ho:o.op=.call { callee:=.builtin .copy,args:=#[d,s],argTypes:=#[25,25] })(dd:Option Tmp)(hdd:o.dst=dd)
  {g n:Nat} {C S:List Value} (dLen dCap:Nat) (ad:Addr) (sLen sCap:Nat) (hd:a.eval d=.slice (some ⟨g,n,none⟩) dLen dCap) (hs:a.eval s=.slice (some ad) sLen sCap)
  (hg:w.heap[g]?=some (.cells C.toArray 2 (0,0))) (hk:S.length=Nat.min sLen dLen) (hn:n+S.length<=C.length) (hsrc:∀ j v,S[j]?=some v->w.cell? (ad.add j)=some v) (h1:∀ v∈S,v.oneCell'=true)
  (h:R (a.put dd (goInt S.length)) (w.setRow g (C.take n++S++C.drop (n+S.length)).toArray)):Oper.wp Tryz.prog o a w R Q:=by
 have hrun:=CB o.type dLen dCap ad sLen sCap hg hk hn hsrc h1;subst hdd;unfold Oper.wp;simp only[execOp,ho,resolve,invoke,builtin,Sem.run_bind,Sem.run_pure,Result.andThen_ok,List.map_toArray,List.map_cons,List.map_nil,hd,hs,hrun];exact h
theorem sX{w:World}{ops:Array Oper}{rest:List Oper}{o:Oper}{a:Act}{Q:Exit->Act->World->Prop}(hgd:o.guard=none)(d s:Operand)(ho:o.op=.call { callee:=.builtin .copy,args:=#[d,s],argTypes:=#[25,25] })(dd:Option Tmp)(hdd:o.dst=dd)
  {g n:Nat} {C S:List Value} (dLen dCap:Nat) (ad:Addr) (sLen sCap:Nat) (hd:a.eval d=.slice (some ⟨g,n,none⟩) dLen dCap) (hs:a.eval s=.slice (some ad) sLen sCap)
  (hg:w.heap[g]?=some (.cells C.toArray 2 (0,0))) (hk:S.length=Nat.min sLen dLen) (hn:n+S.length<=C.length) (hsrc:∀ j v,S[j]?=some v->w.cell? (ad.add j)=some v) (h1:∀ v∈S,v.oneCell'=true)
  (h:wpList Tryz.prog ops Q rest (a.put dd (goInt S.length)) (w.setRow g (C.take n++S++C.drop (n+S.length)).toArray)):wpList Tryz.prog ops Q (o :: rest) a w:=
 wpList_plain hgd fun _ hK=>G7 d s ho dd hdd dLen dCap ad sLen sCap hd hs hg hk hn hsrc h1 (hK _ _ h)
theorem tA(w:World)(g:Nat)(cs:Array Value):w.grownBy (w.setRow g cs) (some g):=
 ⟨rfl,rfl,rfl,by rw[setRow_size];exact Nat.le_refl _,fun k hk hne=>setRow_other w g k cs (fun e=>hne (by rw[e]))⟩
theorem AA{w w':World}{b:Option Nat}(h:RB w w'):w.grownBy w' b:=⟨h.os,h.tape,h.output,h.size,fun k hk _=>h.block k hk⟩
theorem OwI.snocI{w:World}{base cap:Nat}{ao:Option Addr}{l:List Int}{x:Int}(h:GOwn w base 2 1 ao (l.length+1) cap (fun j=>if j<l.length*1 then lf (cU l) j else .int .i64 x)):OwI w base ao cap (l++[x]):=by
 have e:(l++[x]).length=l.length+1:=by simp
 unfold OwI;rw[e];refine GOwn.congr h (fun j hj=>?_);have e2:cU (l++[x])=cU l++[.int .i64 x]:=by simp[cU]
 rw[e2,mT,cO,Nat.mul_one]
 split
 ·rfl
 ·have:j-l.length=0:=by omega
  rw[this];rfl
theorem Tryz.elIN:ElI Tryz.prog 25 2 1 8:=⟨Tryz.underlying25,by
 obtain⟨i0,hi0,hz0,hz1,hz2⟩:=info_parts Tryz.info9I
 exact⟨i0,_,hi0,hz0,hz1,hz2,rfl⟩,by omega,by omega⟩
def CC(base:Nat)(ao:Option Addr)(l:List Int)(i:Nat)(x:Int)(w w':World)(e:Ending):Prop:=∃ ao' cap',e=.returned (.slice ao' (l.length+1) cap')/\OwI w' base ao' cap' (jX l i x)/\w.grownBy w' (dI ao)/\(dI ao'=dI ao\/dI ao'=some w.heap.size)
theorem rP(ao:Option Addr)(n c:Nat):(Value.slice ao n c).ownBlock=dI ao:=by cases ao<;>rfl
theorem AB(l:List Int)(hl:l.length<=1048576)(x:Int)(base:Nat)(ao:Option Addr)(cap xb:Nat)(w:World)(hb:base<=w.heap.size)(hO:OwI w base ao cap l)(hX:w.cell? ⟨xb,0,none⟩=some (.int .i64 x)):Calls Tryz.prog 74 #[.slice ao l.length cap,.int .i64 (l.length:Int),.slice (some ⟨xb,0,none⟩) 1 1] w fun e w'=>CC base ao l l.length x w w' e:=by
 have hx:GRow w (some ⟨xb,0,none⟩) (1*1) (fun _=>.int .i64 x):=fun _=>⟨xb,0,rfl,fun j hj=>by
  obtain rfl:j=0:=by omega
  exact hX⟩
 have hlc:l.length<=cap:=by
  obtain⟨_,q⟩:=hO;rcases q with ⟨e,e2⟩|⟨b,c,cur,e,_,_,h1,_⟩
  ·simp only[Value.slice.injEq]at e;omega
  ·simp only[Value.slice.injEq]at e;omega
 have hgr:∀ w' ao' cap',GOwn w' base 2 1 ao' (l.length+1) cap' (fun j=>if j<l.length*1 then lf (cU l) j else .int .i64 x)->OwI w' base ao' cap' (jX l l.length x):=fun w' ao' cap' h=>by
  have e:jX l l.length x=l++[x]:=by simp[jX]
  rw[e];exact OwI.snocI h
 have hl5:l.length+1<=100000000:=by omega
 have hnl:ao=none->l.length=0/\cap=0:=fun e=>by
  subst e;obtain⟨_,q⟩:=hO;rcases q with ⟨e,e2⟩|⟨b,c,cur,e,_⟩
  ·simp only[Value.slice.injEq]at e;exact⟨by omega,by omega⟩
  ·simp only[Value.slice.injEq]at e;exact absurd e.1 (by simp)
 go_enter Tryz.func74,Tryz.ntmps74;rcases ao with _|⟨g,o,sp⟩
 ·obtain⟨h0,rfl⟩:=hnl rfl
  clear hnl;obtain rfl:l=[]:=List.eq_nil_of_length_eq_zero h0;clear h0 hlc
  go_wp2_with (first|(at_builtin;go_loud (refine fY rfl (.tmp 23) (.tmp 24) Tryz.elIN rfl 25 rfl base _ none _ 0 (by simp[go_sem]) hO (some ⟨xb,0,none⟩) 1 1 (fun _=>.int .i64 x) (by simp[go_sem]) hx (fun _=>rfl) hl5 hb ?_);intro ao' cap' w5 hown hg5 hl6)|fail)
  go_ret;exact⟨ao',cap',rfl,hgr _ _ _ hown,hg5,by rw[rP,rP]at hl6;exact hl6⟩
 ·obtain⟨_,rfl,rfl⟩:∃ g2:Nat,o=0/\sp=none:=by
   obtain⟨_,q⟩:=hO;rcases q with ⟨e,e2⟩|⟨b,c,cur,e,_⟩
   ·simp only[Value.slice.injEq]at e;exact absurd e.1 (by simp)
   ·simp only[Value.slice.injEq,Option.some.injEq,Addr.mk.injEq]at e
    exact⟨b,e.1.2.1,e.1.2.2⟩
  clear hnl;have hlc':(l.length:Int)<=(cap:Int):=by omega
  go_wp2_with (first|(at_builtin;go_loud (refine fY rfl (.tmp 23) (.tmp 24) Tryz.elIN rfl 25 rfl base _ _ _ cap (by simp[go_sem]) hO (some ⟨xb,0,none⟩) 1 1 (fun _=>.int .i64 x) (by simp[go_sem]) hx (fun _=>rfl) hl5 hb ?_);intro ao' cap' w5 hown hg5 hl6)|fail)
  all_goals (go_ret;exact⟨ao',cap',rfl,hgr _ _ _ hown,hg5,by rw[rP,rP]at hl6;exact hl6⟩)
theorem AC{C:List Value}{l:List Int}{i:Nat}(x:Int)(hroom:l.length+1<=C.length)(ht:C.take l.length=cU l)(hi:i<=l.length):
  (((C.take (i+1)++cU (l.drop i)++C.drop (i+1+(cU (l.drop i)).length)).take i++[Value.int .i64 x]++(C.take (i+1)++cU (l.drop i)++C.drop (i+1+(cU (l.drop i)).length)).drop (i+[Value.int .i64 x].length)).take (l.length+1)=cU (jX l i x)):=by
 have h1:(C.take (i+1)).length=i+1:=by simp;omega
 have h2:(C.take (i+1)++cU (l.drop i)++C.drop (i+1+(cU (l.drop i)).length)).take i=cU (l.take i):=by
  rw[List.append_assoc,List.take_append_of_le_length (by omega),List.take_take,Nat.min_eq_left (by omega)];have h3:(C.take l.length).take i=C.take i:=by rw[List.take_take,Nat.min_eq_left hi]
  rw[<-h3,ht];simp[cU,List.map_take]
 have h4:(C.take (i+1)++cU (l.drop i)++C.drop (i+1+(cU (l.drop i)).length)).drop (i+[Value.int .i64 x].length)=cU (l.drop i)++C.drop (i+1+(cU (l.drop i)).length):=by
  rw[List.append_assoc];exact List.drop_left' h1
 rw[h2,h4,<-List.append_assoc];have h5:(cU (l.take i)++[Value.int .i64 x]++cU (l.drop i)).length=l.length+1:=by simp[cU];omega
 rw[List.take_left' h5];simp[jX,cU]
theorem CD{C:List Value}{l:List Int}{i:Nat}(x:Int)(hroom:l.length+1<=C.length)(hi:i<=l.length):
  ((C.take (i+1)++cU (l.drop i)++C.drop (i+1+(cU (l.drop i)).length)).take i++[Value.int .i64 x]++(C.take (i+1)++cU (l.drop i)++C.drop (i+1+(cU (l.drop i)).length)).drop (i+[Value.int .i64 x].length)).length=C.length:=by
 simp[cU];omega
theorem qO{C:List Value}{l:List Int}{i j:Nat}{v:Value}(ht:C.take l.length=cU l)(h:(cU (l.drop i))[j]?=some v):C[i+j]?=some v:=by
 have h1:(cU l)[i+j]?=some v:=by
  rw[<-h];simp[cU,List.getElem?_drop]
 rw[<-ht,List.getElem?_take]at h1
 split at h1
 ·exact h1
 ·cases h1
theorem lG{w:World}{g:Nat}{C:List Value}{t:TypeId}(h:w.heap[g]?=some (.cells C.toArray t (0,0))){j:Nat}{v:Value}(hj:C[j]?=some v):w.cell? ⟨g,j,none⟩=some v:=by
 simp[World.cell?,h,hj]
theorem DT(w:World)(g i cap xb:Nat)(C:List Value)(X:Value)(hg:w.heap[g]?=some (.cells C.toArray 2 (0,0)))(hc:C.length≠0)(hX:w.heap[xb]?=some (.cells #[X] 2 (0,0)))(hne:g≠xb)(lb cb:Nat):(callFunc 103 #[.slice (some ⟨xb,0,none⟩) 1 1,.slice (some ⟨g,i,none⟩) lb cb]).run Tryz.prog w=.ok (.value (.bool false)) w:=by
 obtain⟨i0,hi0,_,_,_⟩:=info_parts Tryz.infoInt;have hcz:Tryz.prog.cellsOf 2=1:=by kernel_rfl
 rw[run_callFunc_extern Tryz.func103 (by kernel_rfl) (by kernel_rfl) (by kernel_rfl) (e:=Extern.SlicesOverlaps.overlaps #[25,25] #[4]) (by kernel_rfl),
  Lib.run_overlaps_apart w 25 4 2 Tryz.underlying25 1 (fun w'=>by rw[run_sizeOf w' hi0,hcz]) ⟨xb,0,none⟩ ⟨g,i,none⟩ 1 1 lb cb (fun e=>hne e.symm) 2 2 1 C.length (by simp[World.shape?,hX]) (by simp[World.shape?,hg]) hc (by simp[World.frozen?,hX]) (by simp[World.frozen?,hX])]
 rfl
theorem G8(l:List Int)(hl:l.length<=1048576)(i:Nat)(hi:i<l.length)(x:Int)(base g cap xb:Nat)(w:World)(hO:OwI w base (some ⟨g,0,none⟩) cap l)(hX:w.heap[xb]?=some (.cells #[.int .i64 x] 2 (0,0)))(hne:g≠xb)(hroom:l.length+1<=cap):Calls Tryz.prog 74 #[.slice (some ⟨g,0,none⟩) l.length cap,.int .i64 (i:Int),.slice (some ⟨xb,0,none⟩) 1 1] w fun e w'=>CC base (some ⟨g,0,none⟩) l i x w w' e:=by
 obtain⟨C,hg,hc,hlc,hm,ht,hbg⟩:=hO.blockAt;have hov:=fun lb cb=>DT w g (i+1) cap xb C _ hg (by omega) hX hne lb cb
 have HL:=CD (C:=C) (l:=l) (i:=i) x (by omega) (by omega);have HT:=AC (C:=C) (l:=l) (i:=i) x (by omega) ht (by omega);have HS:=fun j v=>qO (C:=C) (l:=l) (i:=i) (j:=j) (v:=v) ht
 have hSl:(cU (l.drop i)).length=l.length-i:=by simp[cU]
 have HSO:∀ v∈cU (l.drop i),v.oneCell'=true:=fun v hv=>by
  simp only[cU,List.mem_map]at hv;obtain⟨u,_,rfl⟩:=hv;rfl
 generalize cU (l.drop i)=S at HL HT HS hSl HSO
 have HF:∀ w' C2,w'.heap[g]?=some (.cells C2 2 (0,0))->C2=((C.take (i+1)++S++C.drop (i+1+S.length)).take i++[Value.int .i64 x]++(C.take (i+1)++S++C.drop (i+1+S.length)).drop (i+[Value.int .i64 x].length)).toArray->OwI w' base (some ⟨g,0,none⟩) cap (jX l i x):=fun w' C2 h e=>by
  subst e;exact OwI.ofBlock h (by rw[HL];exact hc) (by rw[lF x (by omega)];exact hroom) hm (by rw[lF x (by omega)];exact HT) hbg
 replace HF:Hid _:=HF;clear HL HT;have hm63:cap<=9223372036854775807:=by unfold maxLen at hm;omega
 clear hm hO ht;obtain⟨n,hn⟩:∃ n,n=l.length:=⟨_,rfl⟩
 replace HS:Hid _:=HS;replace HSO:Hid _:=HSO;rw[<-hn]at hi hroom hlc hSl hl ⊢;replace hn:Hid (n=l.length):=hn;have hw1:IntKind.i64.wrap ((i:Int)+1)=(i:Int)+1:=wi
 have hw2:IntKind.i64.wrap ((n:Int)+1)=(n:Int)+1:=wi
 have hb1:(0:Int)<=(i:Int)+1:=by omega
 have hb0:(0:Int)<=(i:Int):=by omega
 have hbn:(0:Int)<=(n:Int)+1:=by omega
 have hin:(i:Int)<=(n:Int):=by omega
 have hin':i<=n:=by omega
 have htn:((i:Int)+1).toNat=i+1:=by omega
 have htn2:((n:Int)+1).toNat=n+1:=by omega
 have hz2:¬ ((i:Int)=(n:Int)):=by omega
 have hz3:¬ ((cap:Int)<(n:Int)+1):=by omega
 have hz4:(n:Int)+1<=(cap:Int):=by omega
 have hb2:¬ (cap=i+1):=by omega
 have hb4:¬ (cap=i):=by omega
 have hb3:(i:Int)<=(n:Int)+1:=by omega
 have hb5:(i:Int)+1<=(n:Int)+1:=by omega
 have hb6:i+1<=n+1:=by omega
 have hb7:i<=n+1:=by omega
 have hb8:i<=cap:=by omega
 have hb9:n+1<=cap:=by omega
 go_enter Tryz.func74,Tryz.ntmps74
 go_wp2_with (first|simp only[hov]|fail)
 clear hov;have hS0:True:=trivial;refine wp_region_held_drew (S:=fun _=>True) (by kernel_rfl) hS0 (fun hS=>?_);refine tK 0 (some 69) (.slice (some ⟨g,0,none⟩) (n+1) cap) rfl rfl hS (fun w3 hS3=>by go_simp) ?_;simp only[pS];refine tK 1 (some 70) (.int .i64 (i:Int)) rfl rfl hS (fun w3 hS3=>by go_simp) ?_;simp only[pS];refine tK 2 (some 71) (.int .i64 1) rfl rfl hS (fun w3 hS3=>by go_simp) ?_;simp only[pS];refine tK 3 (some 72) (.int .i64 ((i:Int)+1)) rfl rfl hS (fun w3 hS3=>by go_simp) ?_;simp only[pS];refine tK 4 (some 73) (.slice (some ⟨g,i+1,none⟩) (n+1-(i+1)) (cap-(i+1))) rfl rfl hS (fun w3 hS3=>by go_simp) ?_;simp only[pS];refine tK 5 (some 74) (.slice (some ⟨g,0,none⟩) (n+1) cap) rfl rfl hS (fun w3 hS3=>by go_simp) ?_;simp only[pS];refine tK 6 (some 75) (.int .i64 (i:Int)) rfl rfl hS (fun w3 hS3=>by go_simp) ?_;simp only[pS];refine tK 7 (some 76) (.slice (some ⟨g,i,none⟩) (n+1-i) (cap-i)) rfl rfl hS (fun w3 hS3=>by go_simp) ?_;simp only[pS];refine cZ 8 _ rfl (by kernel_rfl) (by rfl) ?_;have hgd:w.drew.heap[g]?=some (.cells C.toArray 2 (0,0)):=hg;refine G7 (.tmp 73) (.tmp 76) rfl (some 77) rfl (C:=C) (S:=S) (n+1-(i+1)) (cap-(i+1)) ⟨g,i,none⟩ (n+1-i) (cap-i) rfl rfl hgd (by rw[hSl];show _=min _ _;omega) (by omega) (fun j v hj=>by rw[Addr.add_mid];exact lG hgd (HS.out j v hj)) HSO.out ⟨trivial,?_⟩;simp only[Act.put,sY,sZ,ss];refine wpAnyH_done (by kernel_rfl) ?_ _;have h1:=setRow_heap w.drew g _ (C.take (i+1)++S++C.drop (i+1+S.length)).toArray _ _ hgd;have hX1:(w.drew.setRow g (C.take (i+1)++S++C.drop (i+1+S.length)).toArray).heap[xb]?=some (.cells #[.int .i64 x] 2 (0,0)):=by rw[setRow_other _ _ _ _ (fun e=>hne e.symm)];exact hX
 have hG1:w.grownBy (w.drew.setRow g (C.take (i+1)++S++C.drop (i+1+S.length)).toArray) (some g):=(AA (Below.refl _ _).drew).trans (tA _ _ _);have hl1:(C.take (i+1)++S++C.drop (i+1+S.length)).length=cap:=by simp;omega
 generalize (C.take (i+1)++S++C.drop (i+1+S.length))=C1 at h1 hX1 hG1 HF hl1 ⊢;generalize w.drew.setRow g C1.toArray=W1 at h1 hX1 hG1 ⊢;clear hgd hg HS HSO hSl hX
 have hsx:∀ j v,[Value.int .i64 x][j]?=some v->W1.cell? ((⟨xb,0,none⟩:Addr).add j)=some v:=fun j v hj=>by
  rw[Addr.add_mid,Nat.zero_add];exact lG (C:=[Value.int .i64 x]) hX1 hj
 have h1x:∀ v∈[Value.int .i64 x],v.oneCell'=true:=fun v hv=>by
  simp at hv;subst hv;rfl
 replace hsx:Hid _:=hsx;replace h1x:Hid _:=h1x;have hkx:Hid ([Value.int .i64 x].length=Nat.min 1 (n+1-i)):=by show _ = _;show 1=min _ _;omega
 have hnx:i+[Value.int .i64 x].length<=C1.length:=by show i+1 ≤ _;omega
 go_upto_region 16 with fail
 go_wp2_with (first|(with_reducible refine sX rfl (.tmp 80) (.tmp 81) rfl (some 82) rfl (C:=C1) (S:=[Value.int .i64 x]) (n+1-i) (cap-i) ⟨xb,0,none⟩ 1 1 (by simp[go_sem]) (by simp[go_sem]) h1 hkx.out hnx hsx.out h1x.out ?_)|fail)
 have hown:=HF.out _ _ (setRow_heap W1 g _ (List.take i C1++Value.int .i64 x :: List.drop (i+1) C1).toArray _ _ h1) (by simp);have hG2:=hG1.trans (tA W1 g (List.take i C1++Value.int .i64 x :: List.drop (i+1) C1).toArray);go_ret;exact⟨some ⟨g,0,none⟩,cap,by rw[<-hn.out];rfl,hown,hG2,.inl rfl⟩
theorem Q3{R:List Value}{l:List Int}{i:Nat}(x:Int)(hR:l.length+1<=R.length)(ht:R.take i=cU (l.take i))(hi:i<l.length):
  (((R.take i++Value.int .i64 x :: R.drop (i+1)).take (i+1)++cU (l.drop i)++(R.take i++Value.int .i64 x :: R.drop (i+1)).drop (i+1+(cU (l.drop i)).length)).take (l.length+1)=cU (jX l i x)):=by
 have h1:(R.take i).length=i:=by simp;omega
 have h2:(R.take i++Value.int .i64 x :: R.drop (i+1)).take (i+1)=cU (l.take i)++[Value.int .i64 x]:=by
  have e:R.take i++Value.int .i64 x :: R.drop (i+1)=(R.take i++[Value.int .i64 x])++R.drop (i+1):=by simp
  rw[e,List.take_left' (by simp;omega),ht]
 rw[h2];have h5:(cU (l.take i)++[Value.int .i64 x]++cU (l.drop i)).length=l.length+1:=by simp[cU];omega
 rw[List.take_left' h5];simp[jX,cU]
theorem AD{R:List Value}{l:List Int}{i:Nat}(x:Int)(hR:l.length+1<=R.length)(hi:i<l.length):
  ((R.take i++Value.int .i64 x :: R.drop (i+1)).take (i+1)++cU (l.drop i)++(R.take i++Value.int .i64 x :: R.drop (i+1)).drop (i+1+(cU (l.drop i)).length)).length=R.length:=by
 simp[cU];omega
theorem Q4(l:List Int)(hl:l.length<=1048576)(i:Nat)(hi:i<l.length)(x:Int)(base g cap xb:Nat)(w:World)(hb:base<=w.heap.size)(hO:OwI w base (some ⟨g,0,none⟩) cap l)(hX:w.heap[xb]?=some (.cells #[.int .i64 x] 2 (0,0)))(hroom:cap<l.length+1):Calls Tryz.prog 74 #[.slice (some ⟨g,0,none⟩) l.length cap,.int .i64 (i:Int),.slice (some ⟨xb,0,none⟩) 1 1] w fun e w'=>CC base (some ⟨g,0,none⟩) l i x w w' e:=by
 obtain⟨C,hg,hc,hlc,hm,ht,hbg⟩:=hO.blockAt;have hgl:g<w.heap.size:=(Array.getElem?_eq_some_iff.1 hg).1;have hxl:xb<w.heap.size:=(Array.getElem?_eq_some_iff.1 hX).1;have HS:=fun j v=>qO (C:=C) (l:=l) (i:=i) (j:=j) (v:=v) ht
 have hSl:(cU (l.drop i)).length=l.length-i:=by simp[cU]
 have HSO:∀ v∈cU (l.drop i),v.oneCell'=true:=fun v hv=>by
  simp only[cU,List.mem_map]at hv;obtain⟨u,_,rfl⟩:=hv;rfl
 obtain⟨n,hn⟩:∃ n,n=l.length:=⟨_,rfl⟩
 obtain⟨i0,hi0,hz0,hz1,hz2⟩:=info_parts Tryz.info9I
 have hhead:∀ j v,(cU (l.take i))[j]?=some v->w.drew.cell? ((⟨g,0,none⟩:Addr).add j)=some v:=fun j v hj=>by
  rw[Addr.add_mid,Nat.zero_add]
  have h1:(cU l)[j]?=some v:=by
   have e:cU (l.take i)=(cU l).take i:=by simp[cU,List.map_take]
   rw[e,List.getElem?_take]at hj
   split at hj
   ·exact hj
   ·cases hj
  rw[<-ht,List.getElem?_take]at h1
  split at h1
  ·exact lG (w:=w) hg h1
  ·cases h1
 have hold:(Builtin.firstCells i0.size i (.slice (some ⟨g,0,none⟩) i cap)).run Tryz.prog w.drew=.ok (cU (l.take i)).toArray w.drew:=by
  rw[hz1];exact run_firstCells_some w.drew 1 i ⟨g,0,none⟩ i cap (cU (l.take i)) (by simp[cU];omega) hhead
 have hrz:∀ ty,(Builtin.append_ #[25,3] ty #[.slice (some ⟨g,0,none⟩) i cap,.int .i64 ((n:Int)+1-(i:Int))]).run Tryz.prog w =
   .ok (.slice (some ⟨w.heap.size,0,none⟩) (n+1) (grownCap w (n+1) cap 2)) (w.drew.alloc (.cells ((cU (l.take i)).toArray++Builtin.zeroCells (Value.int .i64 0).cells (n+1-i)++Builtin.zeroCells (Value.int .i64 0).cells (grownCap w (n+1) cap 2-(n+1))) 2)):=fun ty=>by
  have h:=Lib.run_append_grow_zeros (P:=Tryz.prog) w 25 3 ty 2 i0 _ .i64 .i64 Tryz.underlying25 (by kernel_rfl) hi0 hz0 (some ⟨g,0,none⟩) i cap (cU (l.take i)) hold (n+1-i) (by omega) (by omega) (by omega) (by omega) (by rw[hz2];omega) (by rw[hz2,show i+(n+1-i)=n+1 by omega];exact growslice_fits (by omega) (by omega));rw[show i+(n+1-i)=n+1 by omega]at h;rw[show (n:Int)+1-(i:Int)=((n+1-i:Nat):Int) by omega];exact h
 have hGn:n+1<=grownCap w (n+1) cap 2:=grownCap_ge w _ _ _;have hGm:grownCap w (n+1) cap 2<=maxLen:=grownCap_le_maxLen w (n+1) cap 2 (by unfold maxLen;omega);generalize grownCap w (n+1) cap 2=G at hrz hGn hGm;obtain⟨R,hR⟩:∃ R:List Value,R.toArray=(cU (l.take i)).toArray++Builtin.zeroCells (Value.int .i64 0).cells (n+1-i)++Builtin.zeroCells (Value.int .i64 0).cells (G-(n+1)):=⟨_,Array.toArray_toList⟩
 rw[<-hR]at hrz;have hil:(cU (l.take i)).length=i:=by simp[cU];omega
 have hRl:R.length=G:=by
  have:=congrArg Array.size hR;simp[Builtin.zeroCells,Value.cells,hil]at this;omega
 have hRt:R.take i=cU (l.take i):=by
  have h2:R=cU (l.take i)++((Builtin.zeroCells (Value.int .i64 0).cells (n+1-i)).toList++(Builtin.zeroCells (Value.int .i64 0).cells (G-(n+1))).toList):=by
   have:=congrArg Array.toList hR;simpa using this
  rw[h2];exact List.take_left' hil
 have HL:=AD (R:=R) (l:=l) (i:=i) x (by omega) hi;have HT:=Q3 (R:=R) (l:=l) (i:=i) x (by omega) hRt hi;generalize cU (l.drop i)=S at HL HT HS hSl HSO
 have HF:∀ w' C2,w'.heap[w.heap.size]?=some (.cells C2 2 (0,0))->C2=((R.take i++Value.int .i64 x :: R.drop (i+1)).take (i+1)++S++(R.take i++Value.int .i64 x :: R.drop (i+1)).drop (i+1+S.length)).toArray->OwI w' base (some ⟨w.heap.size,0,none⟩) G (jX l i x):=fun w' C2 h e=>by
  subst e;exact OwI.ofBlock h (by rw[HL];exact hRl) (by rw[lF x (by omega)];omega) hGm (by rw[lF x (by omega)];exact HT) hb
 replace HF:Hid _:=HF;clear HL HT hRt hold hhead hR hil;have hm63:cap<=9223372036854775807:=by unfold maxLen at hm;omega
 have hG63:G<=9223372036854775807:=by unfold maxLen at hGm;omega
 clear hm hGm hO ht;have hRR:RB w (w.alloc (.cells R.toArray 2)).drew:=(ra w (.cells R.toArray 2)).drew
 have hN1:(w.alloc (.cells R.toArray 2)).drew.heap[w.heap.size]?=some (.cells R.toArray 2 (0,0)):=by
  show (w.heap.push _)[w.heap.size]? = _
  simp
 have hX1:(w.alloc (.cells R.toArray 2)).drew.heap[xb]?=some (.cells #[.int .i64 x] 2 (0,0)):=by rw[hRR.block xb hxl];exact hX
 have hg1:(w.alloc (.cells R.toArray 2)).drew.heap[g]?=some (.cells C.toArray 2 (0,0)):=by rw[hRR.block g hgl];exact hg
 clear hX hg;replace hRR:Hid _:=hRR;replace hN1:Hid _:=hN1;replace hX1:Hid _:=hX1;replace hg1:Hid _:=hg1;replace HS:Hid _:=HS;replace HSO:Hid _:=HSO;rw[<-hn]at hi hroom hlc hSl hl ⊢;replace hn:Hid (n=l.length):=hn;have hw1:IntKind.i64.wrap ((i:Int)+1)=(i:Int)+1:=wi
 have hw2:IntKind.i64.wrap ((n:Int)+1)=(n:Int)+1:=wi
 have hw3:IntKind.i64.wrap ((n:Int)+1-(i:Int))=(n:Int)+1-(i:Int):=wi
 have hb1:(0:Int)<=(i:Int)+1:=by omega
 have hb0:(0:Int)<=(i:Int):=by omega
 have hin:(i:Int)<=(n:Int):=by omega
 have hin':i<=n:=by omega
 have htn:((i:Int)+1).toNat=i+1:=by omega
 have hz2':¬ ((i:Int)=(n:Int)):=by omega
 have hz3:(cap:Int)<(n:Int)+1:=by omega
 have hb2:¬ (G=i+1):=by omega
 have hb4:¬ (G=i):=by omega
 have hb6:¬ (cap=i):=by omega
 have hb3:(i:Int)<=(n:Int)+1:=by omega
 have hb5:(i:Int)+1<=(n:Int)+1:=by omega
 have hb7:i<=n+1:=by omega
 have hb8:i+1<=n+1:=by omega
 have hb9:i<=G:=by omega
 have hb10:i+1<=G:=by omega
 have hb11:i<=cap:=by omega
 have hb12:(i:Int)<=(cap:Int):=by omega
 have hb13:g≠w.heap.size:=by omega
 have hb14:xb≠w.heap.size:=by omega
 go_enter Tryz.func74,Tryz.ntmps74
 go_upto_region 10 with (first|(at_builtin;refine Lib.wpList_append_run _ rfl _ _ _ _ rfl _ _ rfl rfl _ _ (hrz _) ?_)|fail)
 clear hrz;generalize (w.alloc (.cells R.toArray 2)).drew=W1 at hRR hN1 hX1 hg1 ⊢;generalize hbE:w.heap.size=b at hN1 HF hb13 hb14 hgl hxl hb ⊢
 have hsx:∀ j v,[Value.int .i64 x][j]?=some v->W1.cell? ((⟨xb,0,none⟩:Addr).add j)=some v:=fun j v hj=>by
  rw[Addr.add_mid,Nat.zero_add];exact lG (C:=[Value.int .i64 x]) hX1.out hj
 have h1x:∀ v∈[Value.int .i64 x],v.oneCell'=true:=fun v hv=>by
  simp at hv;subst hv;rfl
 replace hsx:Hid _:=hsx;replace h1x:Hid _:=h1x;have hkx:Hid ([Value.int .i64 x].length=Nat.min 1 (n+1-i)):=by show _ = _;show 1=min _ _;omega
 have hnx:i+[Value.int .i64 x].length<=R.length:=by show i+1 ≤ _;omega
 go_wp2_with (first|(with_reducible refine sX rfl (.tmp 43) (.tmp 44) rfl (some 45) rfl (C:=R) (S:=[Value.int .i64 x]) (n+1-i) (G-i) ⟨xb,0,none⟩ 1 1 (by simp[go_sem]) (by simp[go_sem]) hN1.out hkx.out hnx hsx.out h1x.out ?_)|fail)
 have eR:R.take i++[Value.int .i64 x]++R.drop (i+[Value.int .i64 x].length)=R.take i++Value.int .i64 x :: R.drop (i+1):=by simp
 rw[eR];clear eR;have hN2:=setRow_heap W1 b _ (R.take i++Value.int .i64 x :: R.drop (i+1)).toArray _ _ hN1.out;have hg2:(W1.setRow b (R.take i++Value.int .i64 x :: R.drop (i+1)).toArray).heap[g]?=some (.cells C.toArray 2 (0,0)):=by rw[setRow_other _ _ _ _ hb13];exact hg1.out
 have hl1:(R.take i++Value.int .i64 x :: R.drop (i+1)).length=G:=by simp;omega
 have hRR2:RB w (W1.setRow b (R.take i++Value.int .i64 x :: R.drop (i+1)).toArray):=below_setRow hRR.out (by omega) _;generalize (R.take i++Value.int .i64 x :: R.drop (i+1))=R1 at hN2 hg2 hl1 HF hRR2 ⊢;generalize W1.setRow b R1.toArray=W2 at hN2 hg2 hRR2 ⊢;clear hRR hN1 hX1 hg1 hsx h1x hkx hnx;have hS0:True:=trivial;have hgd:W2.drew.heap[g]?=some (.cells C.toArray 2 (0,0)):=hg2;have hNd:W2.drew.heap[b]?=some (.cells R1.toArray 2 (0,0)):=hN2;replace hRR2:RB w W2.drew:=hRR2.drew;clear hN2 hg2;replace hgd:Hid _:=hgd;replace hNd:Hid _:=hNd;refine wp_region_held_drew (S:=fun _=>True) (by kernel_rfl) hS0 (fun hS=>?_);refine tK 0 (some 46) (.slice (some ⟨b,0,none⟩) (n+1) G) rfl rfl hS (fun w3 hS3=>by go_simp) ?_;simp only[pS];refine tK 1 (some 47) (.int .i64 (i:Int)) rfl rfl hS (fun w3 hS3=>by go_simp) ?_;simp only[pS];refine tK 2 (some 48) (.int .i64 1) rfl rfl hS (fun w3 hS3=>by go_simp) ?_;simp only[pS];refine tK 3 (some 49) (.int .i64 ((i:Int)+1)) rfl rfl hS (fun w3 hS3=>by go_simp) ?_;simp only[pS];refine tK 4 (some 50) (.slice (some ⟨b,i+1,none⟩) (n+1-(i+1)) (G-(i+1))) rfl rfl hS (fun w3 hS3=>by go_simp) ?_;simp only[pS];refine tK 5 (some 51) (.slice (some ⟨g,0,none⟩) n cap) rfl rfl hS (fun w3 hS3=>by go_simp) ?_;simp only[pS];refine tK 6 (some 52) (.int .i64 (i:Int)) rfl rfl hS (fun w3 hS3=>by go_simp) ?_;simp only[pS];refine tK 7 (some 53) (.slice (some ⟨g,i,none⟩) (n-i) (cap-i)) rfl rfl hS (fun w3 hS3=>by go_simp) ?_;simp only[pS];refine cZ 8 _ rfl (by kernel_rfl) (by rfl) ?_;refine G7 (.tmp 50) (.tmp 53) rfl (some 54) rfl (C:=R1) (S:=S) (n+1-(i+1)) (G-(i+1)) ⟨g,i,none⟩ (n-i) (cap-i) rfl rfl hNd.out (by rw[hSl];show _=min _ _;omega) (by omega) (fun j v hj=>by rw[Addr.add_mid];exact lG hgd.out (HS.out j v hj)) HSO.out ⟨trivial,?_⟩;simp only[Act.put,sY,sZ,ss];refine wpAnyH_done (by kernel_rfl) ?_ _;have h3:=HF.out _ _ (setRow_heap W2.drew b _ (R1.take (i+1)++S++R1.drop (i+1+S.length)).toArray _ _ hNd.out) rfl;have hR3:RB w (W2.drew.setRow b (R1.take (i+1)++S++R1.drop (i+1+S.length)).toArray):=below_setRow hRR2 (by omega) _;generalize W2.drew.setRow b _=W3 at h3 hR3 ⊢;go_wp2;go_ret;exact⟨some ⟨b,0,none⟩,G,by rw[<-hn.out];rfl,h3,AA hR3,.inr (by rw[hbE];rfl)⟩
theorem AE(l:List Int)(hl:l.length<=1048576)(i:Nat)(hi:i<=l.length)(x:Int)(base:Nat)(ao:Option Addr)(cap xb:Nat)(w:World)(hb:base<=w.heap.size)(hO:OwI w base ao cap l)(hX:w.heap[xb]?=some (.cells #[.int .i64 x] 2 (0,0)))(hne:dI ao≠some xb):Calls Tryz.prog 74 #[.slice ao l.length cap,.int .i64 (i:Int),.slice (some ⟨xb,0,none⟩) 1 1] w fun e w'=>CC base ao l i x w w' e:=by
 rcases Nat.lt_or_ge i l.length with h|h
 rotate_left
 ·obtain rfl:i=l.length:=by omega
  exact AB l hl x base ao cap xb w hb hO (lG (C:=[Value.int .i64 x]) hX rfl)
 obtain⟨g,rfl⟩:∃ g,ao=some ⟨g,0,none⟩:=by
  obtain⟨_,q⟩:=hO;rcases q with ⟨e,e2⟩|⟨b,c,cur,e,_⟩
  ·simp only[Value.slice.injEq]at e;omega
  ·simp only[Value.slice.injEq]at e;exact⟨b,e.1⟩
 by_cases hr:l.length+1<=cap
 ·exact G8 l hl i h x base g cap xb w hO hX (fun e=>hne (by rw[e];rfl)) hr
 ·exact Q4 l hl i h x base g cap xb w hb hO hX (by omega)
end
section
open Go Go.RowKit
theorem gL{p lo v:Int}{r:List Int}:bB p lo (v :: r)=true↔lo<=v/\(0<=v/\v<p)/\bB p (v+1) r=true:=by
 simp[bB]
theorem wF{p:Int}:∀ {l:List Int} {lo:Int},bB p lo l=true->∀ x,x∈l->lo<=x
 | [],_,_,_,h=>by cases h
 | v :: r,lo,hv,x,h=>by
  obtain⟨h1,_,h3⟩:=gL.1 hv;rcases List.mem_cons.1 h with rfl|h
  ·exact h1
  ·have:=wF h3 x h
   omega
theorem G3{p:Int}:∀ {l k:List Int} {lo:Int},bB p lo l=true->bB p lo k=true->(∀ x,x∈l↔x∈k)->l=k
 | [],[],_,_,_,_=>rfl
 | [],b :: k,_,_,_,h=>absurd ((h b).2 (List.mem_cons_self ..)) (by simp)
 | a :: l,[],_,_,_,h=>absurd ((h a).1 (List.mem_cons_self ..)) (by simp)
 | a :: l,b :: k,lo,hl,hk,h=>by
  obtain⟨_,_,h3⟩:=gL.1 hl;obtain⟨_,_,k3⟩:=gL.1 hk
  have e:a=b:=by
   have h4:=(h a).1 (List.mem_cons_self ..);have h5:=(h b).2 (List.mem_cons_self ..);rcases List.mem_cons.1 h4 with e|h6
   ·exact e
   rcases List.mem_cons.1 h5 with e|h7
   ·exact e.symm
   have:=wF k3 a h6;have:=wF h3 b h7;omega
  subst e
  congr 1
  refine G3 h3 k3 (fun x=>?_);have hx:=h x;constructor
  ·intro q
   have:=wF h3 x q;rcases List.mem_cons.1 (hx.1 (List.mem_cons_of_mem _ q)) with e|q'
   ·omega
   ·exact q'
  ·intro q
   have:=wF k3 x q;rcases List.mem_cons.1 (hx.2 (List.mem_cons_of_mem _ q)) with e|q'
   ·omega
   ·exact q'
theorem X8{p:Int}:∀ {l:List Int} {lo:Int},bB p lo l=true->0<=lo->(l.length:Int)<=max 0 (p-lo)
 | [],lo,_,_=>by simp only[List.length_nil];omega
 | v :: r,lo,hv,h0=>by
  obtain⟨h1,h2,h3⟩:=gL.1 hv;have:=X8 h3 (by omega);simp only[List.length_cons];omega
theorem L5{l:List Int}{j:Nat}(h:j<l.length):aT l j∈l:=by
 have:aT l j=l[j]:=by simp[aT,h]
 rw[this];exact List.getElem_mem h
theorem pC(a:Int)(l:List Int)(j:Nat):aT (a :: l) (j+1)=aT l j:=by simp[aT]
theorem Y0{p:Int}:∀ {l:List Int} {lo:Int},bB p lo l=true->∀ i j,i<j->j<l.length->aT l i<aT l j
 | [],_,_,_,_,_,h=>by simp at h
 | v :: r,lo,hv,i,j,hij,hj=>by
  obtain⟨_,_,h3⟩:=gL.1 hv;obtain⟨j',rfl⟩:∃ j',j=j'+1:=⟨j-1,by omega⟩
  have hj':j'<r.length:=by simpa using hj
  rw[pC];rcases Nat.eq_zero_or_pos i with rfl|hi
  ·have:=wF h3 _ (L5 hj')
   have e:aT (v :: r) 0=v:=by simp[aT]
   omega
  ·obtain⟨i',rfl⟩:∃ i',i=i'+1:=⟨i-1,by omega⟩
   rw[pC];exact Y0 h3 i' j' (by omega) hj'
theorem Y1{p x:Int}(h0:0<=x/\x<p):∀ {l:List Int} {i:Nat} {lo:Int},bB p lo l=true->i<=l.length->(∀ j,j<i->aT l j<x)->(∀ j,i<=j->j<l.length->x<aT l j)->lo<=x->bB p lo (jX l i x)=true
 | [],i,lo,_,hi,_,_,hlo=>by
  obtain rfl:i=0:=by simpa using hi
  simp[jX,bB,hlo,h0.1,h0.2]
 | v :: r,0,lo,hv,_,_,h2,hlo=>by
  obtain⟨_,h4,h3⟩:=gL.1 hv;have h5:=h2 0 nl (by simp);have e:aT (v :: r) 0=v:=by simp[aT]
  rw[e]at h5
  show bB p lo (x :: v :: r)=true
  exact gL.2 ⟨hlo,h0,gL.2 ⟨by omega,h4,h3⟩⟩
 | v :: r,i+1,lo,hv,hi,h1,h2,hlo=>by
  obtain⟨h6,h4,h3⟩:=gL.1 hv;have h5:=h1 0 (by omega);have e:aT (v :: r) 0=v:=by simp[aT]
  rw[e]at h5
  show bB p lo (v :: jX r i x)=true
  refine gL.2 ⟨h6,h4,Y1 h0 h3 (by simpa using hi) (fun j hj=>?_) (fun j hj hj2=>?_) (by omega)⟩
  ·have:=h1 (j+1) (by omega)
   rwa [pC]at this
  ·have:=h2 (j+1) (by omega) (by simp;omega)
   rwa [pC]at this
theorem Y2{l:List Int}{i:Nat}{x y:Int}:y∈jX l i x↔y=x\/y∈l:=by
 have e:y∈l↔y∈l.take i\/y∈l.drop i:=by
  conv=>lhs;rw[<-List.take_append_drop i l]
  exact List.mem_append
 rw[e];simp only[jX,List.mem_append,List.mem_cons];constructor
 ·rintro (h|h|h)
  ·exact .inr (.inl h)
  ·exact .inl h
  ·exact .inr (.inr h)
 ·rintro (h|h|h)
  ·exact .inr (.inl h)
  ·exact .inl h
  ·exact .inr (.inr h)
theorem L6{p:Int}(hp:0<=p){vs:List Int}{fr x:Int}:x∈tS p.toNat vs fr↔(0<=x/\x<p)/\(x=fr\/x∈vs):=by
 simp only[tS,List.mem_filter,List.mem_map,List.mem_range,Bool.or_eq_true,beq_iff_eq,List.contains_iff_mem];constructor
 ·rintro⟨⟨k,hk,rfl⟩,h⟩
  exact⟨⟨by omega,by omega⟩,h⟩
 ·rintro⟨⟨h1,h2⟩,h⟩
  exact⟨⟨x.toNat,by omega,by omega⟩,h⟩
theorem Y3{p:Int}:∀ {l:List Int} {lo:Int},bB p lo l=true->∀ x,x∈l->0<=x/\x<p
 | [],_,_,_,h=>by cases h
 | v :: r,lo,hv,x,h=>by
  obtain⟨_,h2,h3⟩:=gL.1 hv;rcases List.mem_cons.1 h with rfl|h
  ·exact h2
  ·exact Y3 h3 x h
theorem BU{p:Int}(hp:0<=p){l:List Int}{fr:Int}(hv:bB p 0 l=true){i:Nat}(hi:i<l.length/\aT l i=fr):tS p.toNat l fr=l:=by
 refine (G3 hv (xY p hp l fr) (fun x=>?_)).symm;rw[L6 hp];have hm:fr∈l:=by rw[<-hi.2];exact L5 hi.1
 constructor
 ·intro h
  exact⟨Y3 hv x h,.inr h⟩
 ·rintro⟨_,rfl|h⟩
  ·exact hm
  ·exact h
theorem DS{p:Int}(hp:0<=p){l:List Int}{fr:Int}(h0:0<=fr/\fr<p)(hv:bB p 0 l=true){i:Nat}(hi:i<=l.length)(h1:∀ j,j<i->aT l j<fr)(h2:∀ j,i<=j->j<l.length->fr<=aT l j)(hn:¬ (i<l.length/\aT l i=fr)):jX l i fr=tS p.toNat l fr:=by
 have h3:∀ j,i<=j->j<l.length->fr<aT l j:=fun j hij hj=>by
  have ha:=h2 j hij hj;rcases Nat.lt_or_ge i j with q|q
  ·have hb:=h2 i nl (by omega)
   have:=Y0 hv i j q hj;omega
  ·obtain rfl:i=j:=by omega
   rcases Int.lt_or_le fr (aT l i) with r|r
   ·exact r
   ·exact absurd ⟨hj,by omega⟩ hn
 refine G3 (Y1 h0 hv hi h1 h3 h0.1) (xY p hp l fr) (fun x=>?_);rw[Y2,L6 hp];constructor
 ·rintro (rfl|h)
  ·exact⟨h0,.inl rfl⟩
  ·exact⟨Y3 hv x h,.inr h⟩
 ·rintro⟨_,h⟩
  exact h
end
section
open Go Go.RowKit
attribute [local go_sem ↓] Go.wp_at_zero Go.wp_at_succ
theorem uV{w:World}{base c:Nat}{ao vo po:Option Addr}{l:List Int}(h:dI ao=dI vo\/dI ao=some w.heap.size)(hv:∀ b,dI vo=some b->dI po≠some b)(hp:OwI w base po c l):∀ b,dI ao=some b->dI po≠some b:=fun b e q=>by
 rcases h with h|h
 ·exact hv b (by rw[<-h];exact e) q
 ·have:=(hp.at q).2
  rw[h]at e;have:=oI e;omega
theorem zC(n:Nd)(s:NdS)(hz:NdZ n s)(m:Ms)(eo:Option Addr)(ec:Nat)(hp:1<=n.peers/\n.peers<=5)(hi:0<=n.id/\n.id<n.peers)(hc:0<=n.commit)(hv:bB n.peers 0 n.votes=true)(hfr:0<=m.frm/\m.frm<n.peers)(base:Nat)(w:World)(hbs:base<=w.heap.size)(hO:NdO w base n s):Calls Tryz.prog 34 #[aX n s,eS m eo ec] w fun e w'=>FS base (rG n m) (wZ n m) w w' e:=by
 have hb:=rt _ _ _ (rt _ _ _ (ra w (.cells (aJ n s).toArray 27)) (ra _ (.cells (bZ m eo ec).toArray 29))) (ra _ (.cells (aJ aU aP).toArray 27));have vA:NdB _ w.heap.size n s:=((aH w n s).next (ra _ (.cells (bZ m eo ec).toArray 29))).next (ra _ (.cells (aJ aU aP).toArray 27));have vM:MsB _ (w.alloc (.cells (aJ n s).toArray 27)).heap.size m eo ec:=(bJ (w.alloc (.cells (aJ n s).toArray 27)) m eo ec).next (ra _ (.cells (aJ aU aP).toArray 27));have vR:=aH ((w.alloc (.cells (aJ n s).toArray 27)).alloc (.cells (bZ m eo ec).toArray 29)) aU aP;rw[World.size_alloc]at vM;rw[World.size_alloc,World.size_alloc]at vR;replace hO:=hO.next hb;replace hv:Hid _:=hv;obtain⟨lo,lc,vo,vc,no,nc,mo,mc⟩:=s;go_enter Tryz.func34,Tryz.ntmps34;refine fQ fun K0 hK0=>?_
 go_wp2;refine hK0 _ _ ?_;clear hK0;generalize (((w.alloc _).alloc _).alloc _)=W at hb vA vM vR hO ⊢;have hC:Ch base w W:=Ch.of_rb hb;have hwsz:w.heap.size+1+1<W.heap.size:=vR.lt;obtain⟨f0,f1,f2,f3,f4,f5,f6,f7,f8,f9⟩:=cN vA;obtain⟨g0,g1,g2,g3,g4,g5,g6,g7,g8⟩:=cM vM
 by_cases r2:n.role=2
 rotate_left
 ·have r2':(n.role != 2)=true:=by simp[r2]
  have HN:Hid (rG n m=n):=by show _ = _;simp[rG,tU,r2]
  have HL:Hid (wZ n m=[]):=by show _ = _;simp[wZ,tU,r2]
  clear r2
  go_wp2_with (first|((with_reducible refine wB 27 (.tmp 4) (.tmp 23) (w.heap.size+1+1) (aJ (n) (⟨lo,lc,vo,vc,no,nc,mo,mc⟩)) vR ?_);intro W9 hv9 hg9)|fail)
  obtain⟨q0,q1,q2,q3,q4,q5,q6,q7,q8,q9⟩:=cN hv9;have o9:=hO.gr hg9 (bA vR) (by decide) (by decide);exact bodyPost_ret (v:=.tuple #[aX n ⟨lo,lc,vo,vc,no,nc,mo,mc⟩,.slice none 0 0]) (by simp[results,Tryz.results34,go_sem,q0,q1,q2,q3,q4,q5,q6,q7,q8,q9]) rfl (by rw[HN.out,HL.out];exact⟨⟨lo,lc,vo,vc,no,nc,mo,mc⟩,_,rfl,o9.M,NdO.K o9,jG _ _,hC.box hg9 (by omega)⟩)
 have r2':(n.role != 2)=false:=by simp[r2]
 by_cases b1:m.term=n.term
 rotate_left
 ·have b1':(m.term != n.term)=true:=by simp[b1]
  have HN:Hid (rG n m=n):=by show _ = _;simp[rG,tU,r2,b1]
  have HL:Hid (wZ n m=[]):=by show _ = _;simp[wZ,tU,r2,b1]
  clear r2 b1
  go_wp2_with (first|((with_reducible refine wB 27 (.tmp 4) (.tmp 23) (w.heap.size+1+1) (aJ (n) (⟨lo,lc,vo,vc,no,nc,mo,mc⟩)) vR ?_);intro W9 hv9 hg9)|fail)
  obtain⟨q0,q1,q2,q3,q4,q5,q6,q7,q8,q9⟩:=cN hv9;have o9:=hO.gr hg9 (bA vR) (by decide) (by decide);exact bodyPost_ret (v:=.tuple #[aX n ⟨lo,lc,vo,vc,no,nc,mo,mc⟩,.slice none 0 0]) (by simp[results,Tryz.results34,go_sem,q0,q1,q2,q3,q4,q5,q6,q7,q8,q9]) rfl (by rw[HN.out,HL.out];exact⟨⟨lo,lc,vo,vc,no,nc,mo,mc⟩,_,rfl,o9.M,NdO.K o9,jG _ _,hC.box hg9 (by omega)⟩)
 have b1':(m.term != n.term)=false:=by simp[b1]
 rcases bq m.yes with hy|hy
 rotate_left
 ·skip
  have HN:Hid (rG n m=n):=by show _ = _;simp[rG,tU,r2,b1,hy]
  have HL:Hid (wZ n m=[]):=by show _ = _;simp[wZ,tU,r2,b1,hy]
  clear r2 b1
  go_wp2_with (first|((with_reducible refine wB 27 (.tmp 4) (.tmp 23) (w.heap.size+1+1) (aJ (n) (⟨lo,lc,vo,vc,no,nc,mo,mc⟩)) vR ?_);intro W9 hv9 hg9)|fail)
  obtain⟨q0,q1,q2,q3,q4,q5,q6,q7,q8,q9⟩:=cN hv9;have o9:=hO.gr hg9 (bA vR) (by decide) (by decide);exact bodyPost_ret (v:=.tuple #[aX n ⟨lo,lc,vo,vc,no,nc,mo,mc⟩,.slice none 0 0]) (by simp[results,Tryz.results34,go_sem,q0,q1,q2,q3,q4,q5,q6,q7,q8,q9]) rfl (by rw[HN.out,HL.out];exact⟨⟨lo,lc,vo,vc,no,nc,mo,mc⟩,_,rfl,o9.M,NdO.K o9,jG _ _,hC.box hg9 (by omega)⟩)
 have HA:Hid (rG n m=if fM n.peers (mL n m.frm).votes.length=true then eJ (mL n m.frm) else (mL n m.frm)):=by show _ = _;unfold rG;rw[if_pos (show tU n m=true by simp[tU,r2,b1,hy])];rfl
 have HB:Hid (wZ n m=if fM n.peers (mL n m.frm).votes.length=true then wJ (mL n m.frm) else []):=by show _ = _;unfold wZ;rw[if_pos (show tU n m=true by simp[tU,r2,b1,hy])];rfl
 clear r2 b1
 go_wp2_with fail
 refine (BH m.frm n.votes hz.v (Y0 hv.out) vo vc _ hO.M.v).mono ?_;rintro e w1 ⟨i,hil,hlo,hhi,rfl,hb1⟩;replace hlo:Hid _:=hlo;replace hhi:Hid _:=hhi;replace hC:=hC.trans (Ch.of_rb hb1);replace vA:=vn vA hb1;replace vM:=vn vM hb1;replace vR:=vn vR hb1;replace hO:=hO.next hb1;replace hwsz:=Nat.lt_of_lt_of_le hwsz hb1.size;clear hb hb1 f0 f1 f2 f3 f4 f5 f6 f7 f8 f9 g0 g1 g2 g3 g4 g5 g6 g7 g8;obtain⟨bi,hbi⟩:∃ b,b=decide (i<n.votes.length/\aT n.votes i=m.frm):=⟨_,rfl⟩
 rw[<-hbi];replace hbi:Hid _:=hbi;obtain⟨f0,f1,f2,f3,f4,f5,f6,f7,f8,f9⟩:=cN vA;obtain⟨g0,g1,g2,g3,g4,g5,g6,g7,g8⟩:=cM vM
 go_upto_if 33 with fail
 clear r2' b1' hy
 go_cut [6,7] from 8 to 33 (fun _ _ wc=>∃ s',NdB wc w.heap.size (mL n m.frm) s'/\NdB wc (w.heap.size+1+1) aU aP/\NdO wc base (mL n m.frm) s'/\Ch base w wc/\NdZ (mL n m.frm) s')
 case first=>
  cases bi
  rotate_left
  ·have hs:=BU (p:=n.peers) (by omega) hv.out (of_decide_eq_true hbi.out.symm)
   have eV:(mL n m.frm)=n:=by unfold mL;rw[hs]
   go_wp2
   go_meet
   case rel=>exact⟨_,by rw[eV];exact vA,vR,by rw[eV];exact hO,hC,by rw[eV];exact hz⟩
  have hs:=DS (p:=n.peers) (by omega) hfr hv.out hil hlo.out hhi.out (of_decide_eq_false hbi.out.symm);have eV:(mL n m.frm)=(⟨n.id,n.peers,n.term,n.vote,n.log,n.role,n.commit,jX n.votes i m.frm,n.next,n.mat⟩:Nd):=by unfold mL;rw[hs]
  replace eV:Hid _:=eV;clear hbi hs hlo hhi;have hal:=ra w1 (.cells #[.int .i64 m.frm] 2)
  have hX:(w1.alloc (.cells #[.int .i64 m.frm] 2)).heap[w1.heap.size]?=some (.cells #[.int .i64 m.frm] 2 (0,0)):=by
   show (w1.heap.push _)[w1.heap.size]? = _
   simp
  have hne:dI vo≠some w1.heap.size:=fun q=>by
   have:=(hO.v.at q).2;omega
  replace vA:=vn vA hal;replace vR:=vn vR hal;replace hO:=hO.next hal;replace hC:=hC.trans (Ch.of_rb hal);replace hwsz:=Nat.lt_of_lt_of_le hwsz hal.size;clear hal
  go_wp2_with fail
  clear f0 f1 f2 f3 f4 f5 f6 f7 f8 f9 g0 g1 g2 g3 g4 g5 g6 g7 g8;refine (AE n.votes hz.v i hil m.frm base vo vc w1.heap.size _ (Nat.le_trans hbs hC.size) hO.v hX hne).mono ?_;rintro e w2 ⟨ao,cap,rfl,hown,hg2,hl2⟩;rw[<-lF m.frm hil];generalize (w1.alloc _)=W1 at vA vR hO hC hX hwsz hg2 hl2;have hgT:∀ x,dI vo=some x->aG W1 x 2:=fun x e=>GOwn.typed hO.v (x:=x) (by rw[bK];exact e)
  replace hC:Ch base w w2:=hC.trans (Ch.of_row hg2 (fun x e=>⟨(hO.v.at e).1,.inl (hgT x e)⟩));have o2:NdO w2 base (⟨n.id,n.peers,n.term,n.vote,n.log,n.role,n.commit,jX n.votes i m.frm,n.next,n.mat⟩:Nd) ⟨lo,lc,ao,cap,no,nc,mo,mc⟩:=⟨hO.l.gr hg2 hgT (by decide),hown,OwI.apartO hO.x hg2 hO.vx,OwI.apartO hO.m hg2 hO.vm,uV hl2 hO.vx hO.x,uV hl2 hO.vm hO.m,hO.xm⟩
  replace vA:=VHas.gr vA hg2 hgT (by decide);replace vR:=VHas.gr vR hg2 hgT (by decide);clear hgT hg2 hl2 hown hX hne;obtain⟨f0,f1,f2,f3,f4,f5,f6,f7,f8,f9⟩:=cN vA
  go_wp2_with (first|((with_reducible refine wN 25 (.tmp 41) (.tmp 40) (w.heap.size) 7 (.slice ao (jX n.votes i m.frm).length cap) ((⟨n.id,n.peers,n.term,n.vote,n.log,n.role,n.commit,jX n.votes i m.frm,n.next,n.mat⟩:Nd)) (⟨lo,lc,ao,cap,no,nc,mo,mc⟩) vA ?_);intro W5 v5 gA5)|fail)
  go_meet
  case rel=>exact⟨⟨lo,lc,ao,cap,no,nc,mo,mc⟩,by rw[eV.out];exact v5,VHas.grown vR gA5 (fun e=>by have:=oI e;omega),by rw[eV.out];exact o2.gr gA5 (bA vA) (by decide) (by decide),hC.box gA5 nl,by rw[eV.out];exact⟨hz.l,by rw[lF m.frm hil];have:=X8 hv.out (Int.le_refl 0);omega,hz.x,hz.m,hz.lc,GOwn.cap o2.v,hz.xc,hz.mc,hz.tx⟩⟩
 case rest=>
  clear vA vM vR hO hC hwsz f0 f1 f2 f3 f4 f5 f6 f7 f8 f9 g0 g1 g2 g3 g4 g5 g6 g7 g8 hlo hhi hbi;obtain⟨⟨lo,lc,vo,vc,no,nc,mo,mc⟩,vA,vR,hO,hC,hzV⟩:=hcut;have hwsz:w.heap.size+1+1<wc.heap.size:=vR.lt;generalize eV:(mL n m.frm)=N at vA hO hzV HA HB;have ePr:N.peers=n.peers:=by rw[<-eV];rfl
  have eId:N.id=n.id:=by rw[<-eV];rfl
  have eCm:N.commit=n.commit:=by rw[<-eV];rfl
  rw[<-ePr]at HA HB hp hi;rw[<-eId]at hi;rw[<-eCm]at hc;clear ePr eId eCm eV;obtain⟨f0,f1,f2,f3,f4,f5,f6,f7,f8,f9⟩:=cN vA
  go_wp2_with fail
  clear f0 f1 f2 f3 f4 f5 f6 f7 f8 f9;refine (rA N ⟨lo,lc,vo,vc,no,nc,mo,mc⟩ hzV.v _).mono ?_;rintro e w3 ⟨rfl,hb3⟩;replace vA:=vn vA hb3;replace vR:=vn vR hb3;replace hO:=hO.next hb3;replace hC:=hC.trans (Ch.of_rb hb3);clear hb3;obtain⟨f0,f1,f2,f3,f4,f5,f6,f7,f8,f9⟩:=cN vA;rcases bq (fM N.peers N.votes.length) with b7|b7
  rotate_left
  ·rw[if_neg (by rw[b7];simp)]at HA HB
   rw[b7]
   go_wp2_with (first|((with_reducible refine wB 27 (.tmp 4) (.tmp 48) (w.heap.size+1+1) (aJ (N) (⟨lo,lc,vo,vc,no,nc,mo,mc⟩)) vR ?_);intro W9 hv9 hg9)|fail)
   obtain⟨q0,q1,q2,q3,q4,q5,q6,q7,q8,q9⟩:=cN hv9;have o9:=hO.gr hg9 (bA vR) (by decide) (by decide);exact bodyPost_ret (v:=.tuple #[aX N ⟨lo,lc,vo,vc,no,nc,mo,mc⟩,.slice none 0 0]) (by simp[results,Tryz.results34,go_sem,q0,q1,q2,q3,q4,q5,q6,q7,q8,q9]) rfl (by rw[HA.out,HB.out];exact⟨⟨lo,lc,vo,vc,no,nc,mo,mc⟩,_,rfl,o9.M,NdO.K o9,jG _ _,hC.box hg9 (by omega)⟩)
  rw[if_pos b7]at HA HB;rw[b7]
  go_wp2_with fail
  clear f0 f1 f2 f3 f4 f5 f6 f7 f8 f9 b7;have hw3:w.heap.size<=w3.heap.size:=hC.size;refine (A1 N ⟨lo,lc,vo,vc,no,nc,mo,mc⟩ hzV hp hi hc base _ (Nat.le_trans hbs hw3) hO).mono ?_;rintro e w7 ⟨s7,v,rfl,hM7,hK7,nv,hC7⟩;replace vR:=VHas.ch vR hC7 (by decide) (by decide);obtain⟨lo7,lc7,vo7,vc7,no7,nc7,mo7,mc7⟩:=s7;generalize eJ N=M at hM7 hK7 HA;have hCC:=hC.trans hC7
  go_wp2_with (first|((with_reducible refine wB 27 (.tmp 4) (.tmp 46) (w.heap.size+1+1) (aJ (M) (⟨lo7,lc7,vo7,vc7,no7,nc7,mo7,mc7⟩)) vR ?_);intro W9 hv9 hg9)|fail)
  obtain⟨q0,q1,q2,q3,q4,q5,q6,q7,q8,q9⟩:=cN hv9;exact bodyPost_ret (v:=.tuple #[aX M ⟨lo7,lc7,vo7,vc7,no7,nc7,mo7,mc7⟩,v]) (by simp[results,Tryz.results34,go_sem,q0,q1,q2,q3,q4,q5,q6,q7,q8,q9]) rfl (by rw[HA.out,HB.out];exact⟨_,_,rfl,hM7.gr hg9 (bA vR) (by decide) (by decide),hK7,NetV.gr (NetV.from nv hw3) hg9 vR.typed,hCC.box hg9 (by omega)⟩)
end
section
open Go
section
variable {P:Program} {ops:Array Oper} {Q:Exit->Act->World->Prop}
def PtOk(P:Program)(ops:Array Oper)(a0:Act)(G0 G1:World->Prop)(R:World->World->Prop)(Pr:Nat->Value->World->Prop)(ex sj:List (Nat × Nat))(i:Nat)(o:Oper):Prop:=
 ∀ (a:Act) (w:World) (v:Nat->Value) (Q:Exit->Act->World->Prop),G0 w->EvOk ops a0 o v a.eval->(∀ j,j<ops.size->aK o j=true->fF sj j=j->(fE ex j=none\/fE ex j=some i)->Pr j (v j) w)->o.wp P a w (fun a' w'=>∃ u,a'=a.put o.dst u/\R w w'/\G1 w'/\Pr i u w') Q
theorem PtOk.call{a0:Act}{G0 G1:World->Prop}{R:World->World->Prop}{Pr:Nat->Value->World->Prop}{ex sj:List (Nat × Nat)}{i:Nat}{o:Oper}(h:∀ (ev:Operand->Value) (w:World) (v:Nat->Value),G0 w->EvOk ops a0 o v ev->(∀ j,j<ops.size->aK o j=true->fF sj j=j->(fE ex j=none\/fE ex j=some i)->Pr j (v j) w)->∃ f args,(execOp ev o).run P w=.ok (.enter f args) w/\Calls P f args w fun e w'=>∃ u,e=.returned u/\R w w'/\G1 w'/\Pr i u w'):PtOk P ops a0 G0 G1 R Pr ex sj i o:=by
 intro a w v Q hG E pr;obtain⟨f,args,hr,hc⟩:=h a.eval w v hG E pr;unfold Oper.wp;rw[hr];refine Calls.mono hc ?_;rintro e w' ⟨u,rfl,h1,h2,h3⟩;exact⟨u,rfl,h1,h2,h3⟩
def EK(P:Program)(ops:Array Oper)(a0:Act)(c:Nat)(G0 G1:World->Prop)(R:World->World->Prop)(Pr:Nat->Value->World->Prop)(ex sj dp:List (Nat × Nat))(i:Nat)(o:Oper):Prop:=
 (dp.contains (c,i)=true/\i≠c/\ExOk P ops a0 G0 R Pr ex sj i o)\/(i=c/\fF sj i=i/\PtOk P ops a0 G0 G1 R Pr ex sj i o)\/(dp.contains (i,c)=true/\i≠c/\ExOk P ops a0 G1 R Pr ex sj i o)
def T7(P:Program)(ops:Array Oper)(a0:Act)(c:Nat)(G0 G1:World->Prop)(Rx:Nat->World->World->Prop)(Pr:Nat->Value->World->Prop)(ex sj dp:List (Nat × Nat)):Nat->List Oper->Prop
 | _,[]=>True
 | i,o :: r=>EK P ops a0 c G0 G1 (Rx i) Pr ex sj dp i o/\T7 P ops a0 c G0 G1 Rx Pr ex sj dp (i+1) r
theorem zB{a0:Act}{c:Nat}{G0 G1:World->Prop}{Rx:Nat->World->World->Prop}{Pr:Nat->Value->World->Prop}{ex sj dp:List (Nat × Nat)}:∀ (l:List Oper) (k:Nat),T7 P ops a0 c G0 G1 Rx Pr ex sj dp k l->∀ i o,l[i]?=some o->EK P ops a0 c G0 G1 (Rx (k+i)) Pr ex sj dp (k+i) o
 | [],_,_,i,o,h=>by simp at h
 | p :: r,k,h,0,o,ho=>by
  obtain rfl:p=o:=by simpa using ho
  exact h.1
 | p :: r,k,h,i+1,o,ho=>by
  have e:k+(i+1)=k+1+i:=by omega
  rw[e];exact zB r (k+1) h.2 i o (by simpa using ho)
theorem D7{id:Nat}{a0:Act}{w0:World}(hm:P.follows .mixedOrders=true)(hok:cE ops=true)(hgd:(ops.all fun o=>o.guard.isNone)=true)(c:Nat)(hcs:Nat.blt c ops.size=true)(G0 G1:World->Prop)(hG0:G0 w0.drew)(Rx:Nat->World->World->Prop)(sp:List Nat)(l:List (Value->World->Prop))(ex sj dp:List (Nat × Nat))(hsj:DB ops sj=true)(hdp:O7 ops [] dp=true)
  (hmono:gI RB l) (hsp:∀ i,i∉sp->Rx i=RB)
  (hkx:∀ i,i∈sp->∀ j,j<ops.size->i≠j->fE ex j≠some i->(j,i)∉dp->∀ v w w',cJ l j v w->Rx i w w'->cJ l j v w')
  (hstep:T7 P ops a0 c G0 G1 Rx (cJ l) ex sj dp 0 ops.toList)
  (hend:∀ v w,G1 w->(∀ j,j<ops.size->fE ex j=none->cJ l j (v (fF sj j)) w)->Q .normal (bF v 0 ops.toList a0) w):(Code.region id ops true).wp P Q a0 w0:=by
 have hcs':c<ops.size:=nb hcs
 have hkeep:∀ i j,i<ops.size->j<ops.size->i≠j->fE ex j≠some i->(j,i)∉dp->∀ v w w',cJ l j v w->Rx i w w'->cJ l j v w':=fun i j hi hj hne hx hd v w w' hp hR=>by
  by_cases q:i∈sp
  ·exact hkx i q j hj hne hx hd v w w' hp hR
  ·rw[hsp i q]at hR
   exact cC hmono j v w w' hp hR
 refine jP hm hok (fun D v w=>(if D c=true then G1 w else G0 w)/\(∀ j o,ops[j]?=some o->D j=true->∀ k,aY o k->D k=true)/\∀ j,j<ops.size->D j=true->(∀ e,fE ex j=some e->D e=false)->cJ l j (v (fF sj j)) w) ⟨by simpa using hG0,(fun j o _ h=>by cases h),fun j _ h=>by cases h⟩ (fun i o ho=>?_) (fun D v w hD hI=>?_)
 ·intro a D v w hi hw hI hE
  have hil:i<ops.size:=(Array.getElem?_eq_some_iff.1 ho).1
  have hg:o.guard=none:=by
   have:=(Array.all_eq_true'.1 hgd) o (Array.mem_of_getElem? ho);simpa using this
  have hsub:∀ j,j<ops.size->D j=true->fF sj j≠i:=fun j hj hDj q=>by
   have h1:=(List.all_eq_true.1 hsj) j (List.mem_range.2 hj);have hoj:ops[j]?=some ops[j]:=by simp[hj]
   rw[hoj]at h1;simp only[Bool.or_eq_true,beq_iff_eq]at h1;rcases h1 with h1|h1
   ·rw[h1]at q;subst q;rw[hi]at hDj;cases hDj
   ·have:=hI.2.1 j _ hoj hDj _ (aQ h1)
    rw[q,hi]at this;cases this
  have hcl:∀ (j:Nat) (p:Oper),ops[j]?=some p->(if j=i then true else D j)=true->∀ k,aY p k->(if k=i then true else D k)=true:=fun j p hj hD k hk=>by
   by_cases q:k=i
   ·simp[q]
   ·simp only[if_neg q]
    by_cases q2:j=i
    ·subst q2
     rw[ho]at hj;cases hj;exact hw k hk
    ·exact hI.2.1 j p hj (by simpa[q2] using hD) k hk
  have hpr:∀ j,j<ops.size->aK o j=true->fF sj j=j->(fE ex j=none\/fE ex j=some i)->cJ l j (v j) w:=fun j hj hwj hs hx=>by
   have:=hI.2.2 j hj (hw j (aQ hwj)) (fun e he=>by
    rcases hx with hx|hx
    ·rw[hx]at he;cases he
    ·rw[hx]at he;cases he;exact hi)
   rw[hs]at this;exact this
  have hfin:∀ (G':World->Prop),(∀ w',G' w'->(if (if c=i then true else D c)=true then G1 w' else G0 w'))->o.wp P a w (fun a' w'=>∃ u,a'=a.put o.dst u/\Rx i w w'/\G' w'/\cJ l i (if fF sj i=i then u else v (fF sj i)) w') Q->o.wp P a w (fun a' w'=>∃ u,a'=a.put o.dst u/\((if (if c=i then true else D c)=true then G1 w' else G0 w')/\(∀ j p,ops[j]?=some p->(if j=i then true else D j)=true->∀ k,aY p k->(if k=i then true else D k)=true)/\∀ j,j<ops.size->(if j=i then true else D j)=true->(∀ e,fE ex j=some e->(if e=i then true else D e)=false)->cJ l j ((fun k=>if k=i then u else v k) (fF sj j)) w')) Q:=fun G' hG' h1=>by
   refine Oper.wp_mono (fun a' w' ⟨u,e,hR,hG,hp⟩=>⟨u,e,hG' w' hG,hcl,fun j hj hD hx=>?_⟩) h1
   by_cases q:j=i
   ·subst q
    exact hp
   ·have hD':D j=true:=by simpa[q] using hD
    have hne:=hsub j hj hD';simp only[if_neg hne];refine hkeep i j hil hj (fun z=>q z.symm) (fun z=>?_) (fun z=>?_) _ w w' (hI.2.2 j hj hD' (fun e he=>?_)) hR
    ·have:=hx i z
     simp at this
    ·have:=mJ hI.2.1 dp [] (fun p hp=>by cases hp) hdp (j,i) z hD'
     rw[hi]at this;cases this
    ·have:=hx e he
     by_cases q2:e=i
     ·subst q2;simp at this
     ·simpa[q2] using this
  rw[if_pos (by unfold Region.wanted;rw[hg])];have hT:=zB ops.toList 0 hstep i o (by simpa using ho);rw[Nat.zero_add]at hT;rcases hT with ⟨hd,hic,hT⟩|⟨rfl,hs,hT⟩|⟨hd,hic,hT⟩
  ·have hDc:D c=false:=by
    rcases bq (D c) with q|q
    ·have:=mJ hI.2.1 dp [] (fun p hp=>by cases hp) hdp (c,i) (by simpa using hd) q
     rw[hi]at this;cases this
    ·exact q
   have hci:c≠i:=fun q=>hic q.symm
   refine hfin G0 (fun w' h=>?_) (hT a w v Q (by have:=hI.1;rwa [if_neg (by rw[hDc];simp)]at this) hE hpr);rw[if_neg (by rw[if_neg hci,hDc];simp)];exact h
  ·refine hfin G1 (fun w' h=>by rw[if_pos (by simp)];exact h) (Oper.wp_mono (fun a' w' ⟨u,e,hR,hG,hp⟩=>⟨u,e,hR,hG,by rw[if_pos hs];exact hp⟩) (hT a w v Q (by have:=hI.1;rwa [if_neg (by rw[hi];simp)]at this) hE hpr))
  ·have hDc:D c=true:=by
    have:=mJ (D:=fun j=>if j=i then true else D j) hcl dp [] (fun p hp=>by cases hp) hdp (i,c) (by simpa using hd) (by simp);rcases (by simpa using this:c=i\/D c=true) with q|q
    ·exact absurd q.symm hic
    ·exact q
   refine hfin G1 (fun w' h=>?_) (hT a w v Q (by have:=hI.1;rwa [if_pos hDc]at this) hE hpr);rw[if_pos (by rw[if_neg (fun q=>hic q.symm)];exact hDc)];exact h
 ·have:=hI.1
  rw[if_pos (hD c hcs')]at this;exact hend v w this (fun j hj hx=>hI.2.2 j hj (hD j hj) (fun e he=>by rw[hx]at he;cases he))
end
end
end Go.Proofs.YtbabakgjkloabaaGreatDoor
