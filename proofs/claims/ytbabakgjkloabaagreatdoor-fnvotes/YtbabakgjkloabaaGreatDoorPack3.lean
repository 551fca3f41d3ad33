/-
  Helpers: TxtP, Small, In, Ok, CmdP, RdP, CutR, WdsP, Jumps, Ints, Grow, OwnI.
-/
import Derived.Test.YtbabakgjkloabaaGreatDoorPack1
import Derived.Laws.RangeAny
import Derived.Scope
set_option linter.unusedVariables false
set_option linter.unusedSimpArgs false
set_option maxRecDepth 100000
set_option maxHeartbeats 16000000
namespace Go.Proofs.YtbabakgjkloabaaGreatDoor
section
def iU(c:UInt8):Bool:=decide (48<=c.toNat)&&decide (c.toNat<=57)
def dg(c:UInt8):Int:=(c.toNat:Int)-48
def val(l:List UInt8):Int:=l.foldl (fun n c=>n*10+dg c) 0
def iK(neg:Bool)(d:List UInt8):Option Int:=
 if d.length=0\/9<d.length then none else if d.all iU=false then none else if d.head?=some 48/\(neg=true\/1<d.length) then none else some (if neg=true then-val d else val d)
def fT(s:List UInt8):Option Int:=if s.head?=some 45 then iK true s.tail else iK false s
def bG:List UInt8->List Int->List UInt8->Option (List Int)
 | [],out,cur=>(fT cur).map fun n=>out++[n]
 | c :: t,out,cur=>if c=32 then (match fT cur with|some n=>bG t (out++[n]) []|none=>none) else bG t out (cur++[c])
inductive Sta where
 | ahead (out:List Int)
 | within (n:Int) (out:List Int)
 | behind (out:List Int)
def aZ:List UInt8->Sta->Option (List Int)
 | [],.ahead _=>none
 | [],.within n out=>some (out++[n])
 | [],.behind out=>some out
 | c :: t,.ahead out=>if out.length=30 then none else if c=48 then aZ t (.behind (out++[0])) else if iU c=true then aZ t (.within (dg c) out) else none
 | c :: t,.within n out=>if iU c=true then (if 999999999<10*n+dg c then none else aZ t (.within (10*n+dg c) out)) else if c=32 then aZ t (.ahead (out++[n])) else none
 | c :: t,.behind out=>if c=32 then aZ t (.ahead out) else none
theorem wK{c:UInt8}(h:iU c=true):0<=dg c/\dg c<=9:=by
 simp[iU]at h;unfold dg;omega
theorem I2{c:UInt8}(h:iU c=true):c≠32/\c≠45:=by
 constructor<;>(rintro rfl;simp[iU]at h)
theorem tD(l:List UInt8)(c:UInt8):val (l++[c])=val l*10+dg c:=by simp[val,List.foldl_append]
theorem yG:∀ (l:List UInt8) (n:Int),l.all iU=true->0<=n->n<=l.foldl (fun n c=>n*10+dg c) n
 | [],n,_,_=>Int.le_refl _
 | c :: t,n,h,h0=>by
  simp at h;have hd:=wK h.1;have:=yG t (n*10+dg c) (by simpa using h.2) (by omega);simp only[List.foldl_cons];omega
theorem oJ{l:List UInt8}(h:l.all iU=true):0<=val l:=by
 have:=yG l 0 h (Int.le_refl _);exact this
theorem tE{l:List UInt8}{c:UInt8}:(l++[c]).all iU=true↔l.all iU=true/\iU c=true:=by simp
theorem A2:∀ (l:List UInt8) (n:Int),l.all iU=true->1<=n->n*(10:Int) ^ l.length<=l.foldl (fun n c=>n*10+dg c) n/\l.foldl (fun n c=>n*10+dg c) n<(n+1)*(10:Int) ^ l.length
 | [],n,_,_=>by simp;omega
 | c :: t,n,h,h0=>by
  simp at h;have hd:=wK h.1;obtain⟨h1,h2⟩:=A2 t (n*10+dg c) (by simpa using h.2) (by omega);simp only[List.foldl_cons,List.length_cons];have hp:(0:Int)<=(10:Int) ^ t.length:=Int.pow_nonneg (by decide);have e1:n*(10:Int) ^ (t.length+1)=(n*10)*(10:Int) ^ t.length:=by rw[Int.pow_succ,Int.mul_comm ((10:Int) ^ t.length) 10,<-Int.mul_assoc]
  have e2:(n+1)*(10:Int) ^ (t.length+1)=((n+1)*10)*(10:Int) ^ t.length:=by rw[Int.pow_succ,Int.mul_comm ((10:Int) ^ t.length) 10,<-Int.mul_assoc]
  have m1:(n*10)*(10:Int) ^ t.length<=(n*10+dg c)*(10:Int) ^ t.length:=Int.mul_le_mul_of_nonneg_right (by omega) hp;have m2:(n*10+dg c+1)*(10:Int) ^ t.length<=((n+1)*10)*(10:Int) ^ t.length:=Int.mul_le_mul_of_nonneg_right (by omega) hp;rw[e1,e2];omega
theorem tF{l:List UInt8}(h:l.all iU=true)(hl:l≠[])(h0:l.head?≠some 48):(val l<=999999999↔l.length<=9)/\1<=val l:=by
 cases l with
 | nil=>exact absurd rfl hl
 | cons c t=>
  simp at h h0;have hd:=wK h.1
  have h1:1<=dg c:=by
   have:dg c≠0:=fun e=>h0 (by unfold dg at e;exact UInt8.toNat_inj.1 (by simp;omega))
   omega
  obtain⟨a,b⟩:=A2 t (dg c) (by simpa using h.2) h1;have e:val (c :: t)=t.foldl (fun n c=>n*10+dg c) (dg c):=by simp[val]
  rw[e]
  have hp1:(1:Int)<=(10:Int) ^ t.length:=by
   have:=Int.pow_pos (n:=10) (m:=t.length) (by decide);omega
  have hf:=yG t (dg c) (by simpa using h.2) (by omega);refine⟨⟨fun hv=>?_,fun hv=>?_⟩,by omega⟩
  ·by_cases hlen:t.length<=8
   ·simp;omega
   ·exfalso
    have hp:(10:Int) ^ 9<=(10:Int) ^ t.length:=by
     obtain⟨k,hk⟩:∃ k,t.length=9+k:=⟨t.length-9,by omega⟩
     rw[hk,Int.pow_add]
     have:(1:Int)<=(10:Int) ^ k:=by
      have:=Int.pow_pos (n:=10) (m:=k) (by decide);omega
     have h9:(0:Int)<=(10:Int) ^ 9:=by decide
     have:=Int.mul_le_mul_of_nonneg_left this h9;omega
    have:1*(10:Int) ^ t.length<=dg c*(10:Int) ^ t.length:=Int.mul_le_mul_of_nonneg_right h1 (by omega);have e9:(10:Int) ^ 9=1000000000:=by decide
    omega
  ·simp at hv
   have hp:(10:Int) ^ t.length<=(10:Int) ^ 8:=by
    obtain⟨k,hk⟩:∃ k,8=t.length+k:=⟨8-t.length,by omega⟩
    rw[hk,Int.pow_add]
    have:(1:Int)<=(10:Int) ^ k:=by
     have:=Int.pow_pos (n:=10) (m:=k) (by decide);omega
    have:=Int.mul_le_mul_of_nonneg_left this (by omega:(0:Int)<=(10:Int) ^ t.length);omega
   have:(dg c+1)*(10:Int) ^ t.length<=10*(10:Int) ^ t.length:=Int.mul_le_mul_of_nonneg_right (by omega) (by omega);have e8:(10:Int) ^ 8=100000000:=by decide
   omega
theorem jS:∀ (l:List UInt8) (out:List Int) (cur:List UInt8),(∀ x,fT (cur++x)=none)->bG l out cur=none
 | [],out,cur,h=>by
  have:=h [];simp at this;simp[bG,this]
 | c :: t,out,cur,h=>by
  unfold bG
  by_cases hc:c=32
  ·have:=h []
   simp at this;rw[if_pos hc,this]
  ·rw[if_neg hc]
   exact jS t out (cur++[c]) (fun x=>by rw[List.append_assoc];exact h _)
theorem fG:∀ (l:List UInt8) (out:List Int) (cur:List UInt8) (ns:List Int),bG l out cur=some ns->out <+: ns
 | [],out,cur,ns,h=>by
  simp[bG]at h;obtain⟨n,_,rfl⟩:=h;exact⟨[n],rfl⟩
 | c :: t,out,cur,ns,h=>by
  unfold bG at h
  by_cases hc:c=32
  ·rw[if_pos hc]at h
   cases hn:fT cur with
   | none=>rw[hn]at h;cases h
   | some n=>
    rw[hn]at h;have:=fG t (out++[n]) [] ns h;exact (List.prefix_append out [n]).trans this
  ·rw[if_neg hc]at h
   exact fG t out (cur++[c]) ns h
theorem A3{d:List UInt8}{n:Int}(h:iK true d=some n):n<0:=by
 unfold iK at h
 split at h
 ·cases h
 rename_i h1
 split at h
 ·cases h
 rename_i h2
 split at h
 ·cases h
 rename_i h3
 simp at h
 have hall:d.all iU=true:=by
  cases hh:d.all iU with
  | true=>rfl
  | false=>exact absurd hh h2
 have:=(tF hall (by rintro rfl;simp at h1) (fun e=>h3 ⟨e,Or.inl rfl⟩)).2;omega
theorem wL:∀ (l:List UInt8) (out:List Int) (d:List UInt8) (ns:List Int),bG l out (45 :: d)=some ns->∃ x,x∈ns.drop out.length/\x<0
 | [],out,d,ns,h=>by
  simp[bG,fT]at h;obtain⟨n,hn,rfl⟩:=h;exact⟨n,by simp,A3 hn⟩
 | c :: t,out,d,ns,h=>by
  unfold bG at h
  by_cases hc:c=32
  ·rw[if_pos hc]at h
   cases hn:fT (45 :: d) with
   | none=>rw[hn]at h;cases h
   | some n=>
    rw[hn]at h;obtain⟨y,rfl⟩:=fG t (out++[n]) [] ns h;simp[fT]at hn;exact⟨n,by simp,A3 hn⟩
  ·rw[if_neg hc]at h
   exact wL t out (d++[c]) ns (by simpa using h)
def tG(k:Nat)(ns:List Int):Prop:=(∀ x∈ns.drop k,0<=x)/\ns.length<=30
theorem nM{out:List Int}{n:Int}{ns:List Int}(hp:(out++[n]) <+: ns)(h0:0<=n):tG out.length ns↔tG (out++[n]).length ns:=by
 obtain⟨y,rfl⟩:=hp;unfold tG;simp;intro _ _;exact h0
theorem oK{cur:List UInt8}(hne:cur≠[])(hall:cur.all iU=true):cur.head?≠some 45:=by
 cases cur with
 | nil=>exact absurd rfl hne
 | cons c t=>
  simp at hall ⊢;exact (I2 hall.1).2
theorem wO{cur:List UInt8}{n:Int}(hne:cur≠[])(hall:cur.all iU=true)(h0:cur.head?≠some 48)(hv:val cur=n)(hm:n<=999999999):fT cur=some n:=by
 have hl:=(tF hall hne h0).1.1 (by omega);have hpos:cur.length≠0:=by simpa using hne
 unfold fT;rw[if_neg (oK hne hall)];unfold iK;rw[if_neg (by omega),if_neg (by simp[hall]),if_neg (fun e=>h0 e.1)];simp[hv]
theorem R5{cur:List UInt8}(hne:cur≠[])(h45:cur.head?≠some 45)(hl:9<cur.length)(x:List UInt8):fT (cur++x)=none:=by
 unfold fT;rw[if_neg (by cases cur with|nil=>exact absurd rfl hne|cons c t=>simpa using h45)];unfold iK;rw[if_pos (Or.inr (by simp;omega))]
theorem wP{cur:List UInt8}{c:UInt8}(hc:iU c=false)(h45:(cur++[c]).head?≠some 45)(x:List UInt8):fT ((cur++[c])++x)=none:=by
 unfold fT;rw[if_neg (by cases cur<;>simpa using h45)];unfold iK
 split
 ·rfl
 rw[if_pos (by simp[hc])]
theorem A4{d:List UInt8}(hd:d≠[])(x:List UInt8):fT ((48 :: d)++x)=none:=by
 unfold fT;rw[if_neg (by simp)];unfold iK
 split
 ·rfl
 split
 ·rfl
 rw[if_pos ⟨by simp,Or.inr (by cases d with|nil=>exact absurd rfl hd|cons c t=>simp)⟩]
theorem qQ:fT [48]=some 0:=by decide
theorem pH:fT []=none:=by decide
theorem wQ:∀ (l:List UInt8),
  (∀ out ns,out.length<=30->(aZ l (.ahead out)=some ns↔bG l out []=some ns/\tG out.length ns)) ∧
  (∀ out n cur ns,out.length<30->cur≠[]->cur.all iU=true->cur.head?≠some 48->val cur=n->n<=999999999->(aZ l (.within n out)=some ns↔bG l out cur=some ns/\tG out.length ns)) ∧
  (∀ out ns,out.length<30->(aZ l (.behind (out++[0]))=some ns↔bG l out [48]=some ns/\tG out.length ns))
 | []=>by
  refine⟨fun out ns _=>?_,fun out n cur ns ho hne hall h0 hv hm=>?_,fun out ns ho=>?_⟩
  ·simp[aZ,bG,pH]
  ·simp only[aZ,bG,wO hne hall h0 hv hm,Option.map_some,Option.some.injEq]
   have:=oJ hall;exact⟨fun e=>⟨e,by subst e;exact⟨by simp;omega,by simp;omega⟩⟩,fun e=>e.1⟩
  ·simp only[aZ,bG,qQ,Option.map_some,Option.some.injEq]
   exact⟨fun e=>⟨e,by subst e;exact⟨by simp,by simp;omega⟩⟩,fun e=>e.1⟩
 | c :: t=>by
  obtain⟨iA,iW,iB⟩:=wQ t;refine⟨fun out ns ho=>?_,fun out n cur ns ho hne hall h0 hv hm=>?_,fun out ns ho=>?_⟩
  ·have hs:∀ h32:c≠32,bG (c :: t) out []=bG t out [c]:=fun h32=>by simp[bG,h32]
   by_cases h30:out.length=30
   ·have hL:aZ (c :: t) (.ahead out)=none:=by simp[aZ,h30]
    rw[hL];refine⟨fun h=>(by cases h),fun ⟨h1,h2⟩=>?_⟩;exfalso
    have hlong:∀ (l:List UInt8) (cur:List UInt8),bG l out cur=some ns->out.length<ns.length:=by
     intro l
     induction l with
     | nil=>
      intro cur h;simp[bG]at h;obtain⟨n,_,rfl⟩:=h;simp
     | cons d u ih=>
      intro cur h;unfold bG at h
      split at h
      ·cases hn:fT cur with
       | none=>rw[hn]at h;cases h
       | some n=>
        rw[hn]at h;have:=(fG u (out++[n]) [] ns h).length_le;simp at this;omega
      ·exact ih _ h
    have:=hlong _ _ h1;have:=h2.2;omega
   by_cases h48:c=48
   ·subst h48
    rw[hs (by decide)];have hL:aZ (48 :: t) (.ahead out)=aZ t (.behind (out++[0])):=by simp[aZ,h30]
    rw[hL];exact iB out ns (by omega)
   cases hd:iU c with
   | true=>
    have hb:=wK hd;rw[hs (I2 hd).1];have hL:aZ (c :: t) (.ahead out)=aZ t (.within (dg c) out):=by simp[aZ,h30,h48,hd]
    rw[hL];exact iW out (dg c) [c] ns (by omega) (by simp) (by simp[hd]) (by simpa using h48) (by simp[val]) (by omega)
   | false=>
    have hL:aZ (c :: t) (.ahead out)=none:=by simp[aZ,h30,h48,hd]
    rw[hL];refine⟨fun h=>(by cases h),fun ⟨h1,h2⟩=>?_⟩;exfalso
    by_cases h32:c=32
    ·subst h32
     simp[bG,pH]at h1
    rw[hs h32]at h1
    by_cases h45:c=45
    ·subst h45
     obtain⟨x,hx,hx0⟩:=wL t out [] ns h1;have:=h2.1 x hx;omega
    ·rw[jS t out [c] (fun x=>wP (cur:=[]) hd (by simpa using h45) x)]at h1
     cases h1
  ·cases hd:iU c with
   | true=>
    have hb:=wK hd;have hall':(cur++[c]).all iU=true:=tE.2 ⟨hall,hd⟩;have hne':cur++[c]≠[]:=by simp
    have h0':(cur++[c]).head?≠some 48:=by cases cur with|nil=>exact absurd rfl hne|cons d u=>simpa using h0
    have hv':val (cur++[c])=10*n+dg c:=by rw[tD,hv];omega
    have hsn:bG (c :: t) out cur=bG t out (cur++[c]):=by simp[bG,(I2 hd).1]
    rw[hsn]
    by_cases hbig:999999999<10*n+dg c
    ·have hL:aZ (c :: t) (.within n out)=none:=by simp[aZ,hd,hbig]
     rw[hL];refine⟨fun h=>(by cases h),fun ⟨h1,_⟩=>?_⟩
     have hlen:9<(cur++[c]).length:=by
      have:=(tF hall' hne' h0').1;rw[hv']at this;omega
     rw[jS t out _ (R5 hne' (oK hne' hall') hlen)]at h1;cases h1
    ·have hL:aZ (c :: t) (.within n out)=aZ t (.within (10*n+dg c) out):=by simp[aZ,hd,hbig]
     rw[hL];exact iW out (10*n+dg c) (cur++[c]) ns ho hne' hall' h0' hv' (by omega)
   | false=>
    by_cases h32:c=32
    ·subst h32
     have hL:aZ (32 :: t) (.within n out)=aZ t (.ahead (out++[n])):=by simp[aZ,hd]
     have hsn:bG (32 :: t) out cur=bG t (out++[n]) []:=by simp[bG,wO hne hall h0 hv hm]
     rw[hL,hsn,iA (out++[n]) ns (by simp;omega)];have hn0:0<=n:=by rw[<-hv];exact oJ hall
     exact⟨fun ⟨a,b⟩=>⟨a,(nM (fG _ _ _ _ a) hn0).2 b⟩,fun ⟨a,b⟩=>⟨a,(nM (fG _ _ _ _ a) hn0).1 b⟩⟩
    ·have hL:aZ (c :: t) (.within n out)=none:=by simp[aZ,hd,h32]
     have hsn:bG (c :: t) out cur=bG t out (cur++[c]):=by simp[bG,h32]
     rw[hL,hsn,jS t out _ (wP hd (by cases cur with|nil=>exact absurd rfl hne|cons d u=>simpa using oK hne hall))];simp
  ·by_cases h32:c=32
   ·subst h32
    have hL:aZ (32 :: t) (.behind (out++[0]))=aZ t (.ahead (out++[0])):=by simp[aZ]
    have hsn:bG (32 :: t) out [48]=bG t (out++[0]) []:=by simp[bG,qQ]
    rw[hL,hsn,iA (out++[0]) ns (by simp;omega)];exact⟨fun ⟨a,b⟩=>⟨a,(nM (fG _ _ _ _ a) (Int.le_refl _)).2 b⟩,fun ⟨a,b⟩=>⟨a,(nM (fG _ _ _ _ a) (Int.le_refl _)).1 b⟩⟩
   ·have hL:aZ (c :: t) (.behind (out++[0]))=none:=by simp[aZ,h32]
    have hsn:bG (c :: t) out [48]=bG t out [48,c]:=by simp[bG,h32]
    rw[hL,hsn,jS t out [48,c] (fun x=>A4 (d:=[c]) (by simp) x)];simp
end
section
open Go.RowKit
def ar(F T G:Nat->Int)(j:Nat):Int:=if j%3=0 then F (j / 3) else if j%3=1 then T (j / 3) else G (j / 3)
theorem FE(F T G:Nat->Int)(k:Nat):ar F T G (k*3)=F k:=by
 unfold ar;rw[if_pos (by omega)];congr 1;omega
theorem FF(F T G:Nat->Int)(k:Nat):ar F T G (k*3+1)=T k:=by
 unfold ar;rw[if_neg (by omega),if_pos (by omega)];congr 1;omega
theorem FG(F T G:Nat->Int)(k:Nat):ar F T G (k*3+2)=G k:=by
 unfold ar;rw[if_neg (by omega),if_neg (by omega)];congr 1;omega
def Row(w:World)(ao:Option Addr)(n:Nat)(F T G:Nat->Int):Prop:=∀ k,k<n->∃ b o,ao=some ⟨b,o,none⟩ ∧
 w.cell? ⟨b,o+k*3,none⟩=some (.int .i64 (F k))/\w.cell? ⟨b,o+k*3+1,none⟩=some (.int .i64 (T k))/\w.cell? ⟨b,o+k*3+2,none⟩=some (.int .i64 (G k))
theorem Row.below{w w':World}{B:Nat}{ao:Option Addr}{n:Nat}{F T G:Nat->Int}(h:Row w ao n F T G)(hb:Below B w w')(hB:w.heap.size<=B):Row w' ao n F T G:=fun k hk=>by
 obtain⟨b,o,e,c0,c1,c2⟩:=h k hk;have hlt:=dB c0;exact⟨b,o,e,by rw[hb.cell (by simp;omega)];exact c0,by rw[hb.cell (by simp;omega)];exact c1,by rw[hb.cell (by simp;omega)];exact c2⟩
def Own(w:World)(b n:Nat)(f:Nat->Int):Prop:=w.rowIs b 115 (n*3) (fun j=>.int .i64 (f j))
theorem Own.below{w w':World}{b n:Nat}{f:Nat->Int}(h:Own w b n f)(hb:Below w.heap.size w w'):Own w' b n f:=World.rowIs.of_block h (hb.block b (World.rowIs.lt h))
theorem Own.three{w:World}{b n k:Nat}{F T G:Nat->Int}(h:Own w b n (upto (ar F T G) (k*3)))(hk:k<n):
  Own (((w.setCell ⟨b,k*3,none⟩ (.int .i64 (F k))).setCell ⟨b,k*3+1,none⟩ (.int .i64 (T k))).setCell ⟨b,k*3+2,none⟩ (.int .i64 (G k))) b n (upto (ar F T G) ((k+1)*3)):=by
 refine (((World.rowIs.set h (k*3) _).set (k*3+1) _).set (k*3+2) _).congr fun j hj=>?_
 by_cases e2:j=k*3+2
 ·subst e2;simp only[if_pos];unfold upto;rw[if_pos (by omega),FG]
 by_cases e1:j=k*3+1
 ·subst e1;rw[if_neg (by omega),if_pos rfl];unfold upto;rw[if_pos (by omega),FF]
 by_cases e0:j=k*3
 ·subst e0;rw[if_neg (by omega),if_neg (by omega),if_pos rfl];unfold upto;rw[if_pos (by omega),FE]
 rw[if_neg e2,if_neg e1,if_neg e0];unfold upto
 by_cases hl:j<k*3
 ·rw[if_pos hl,if_pos (by omega)]
 ·rw[if_neg hl,if_neg (by omega)]
theorem Tryz.infoArc:(Tryz.prog.info? 115).map (fun i=>(i.zero,i.size,i.bytes))=some (some (.agg #[.int .i64 0,.int .i64 0,.int .i64 0]),3,24):=by kernel_rfl
theorem T5(w:World)(n:Nat)(f:Nat->Int):Own (w.alloc (.cells (madeCells #[.int .i64 0,.int .i64 0,.int .i64 0] (n*3)) 115)) w.heap.size n (upto f 0):=by
 refine⟨_,Go.Deep.blk_alloc_new _ _,size_madeCells _ _,fun i hi=>?_⟩;have h3:i%3=0\/i%3=1\/i%3=2:=by omega
 simp[madeCells,hi,upto];rcases h3 with h|h|h<;>simp[h]
theorem O0(n:Nat)(hn:n<=1048576)(w:World):
  (Instr.makeSlice 76 (.int .i64 (n:Int)) (.int .i64 (n:Int))).run Tryz.prog w=.ok (.slice (some ⟨w.heap.size,0,none⟩) n n) (w.alloc (.cells (madeCells #[.int .i64 0,.int .i64 0,.int .i64 0] (n*3)) 115)):=by
 obtain⟨i,hi,hz0,hz1,hz2⟩:=info_parts Tryz.infoArc;have hr:=run_make (P:=Tryz.prog) w 76 115 i _ Tryz.underlying76 hi hz0 .i64 .i64 n n (by omega) (Int.le_refl _) (by rw[hz2];omega) (by omega);simpa[hz1,Value.cells] using hr
theorem cP(x lo hi:Int)(w:World):
  Calls Tryz.prog 40 #[.int .i64 x,.int .i64 lo,.int .i64 hi] w fun e w'=>e=.returned (.bool (dD x lo hi))/\w'=w:=by
 by_cases h1:lo<=x<;>by_cases h2:x<=hi <;>
 ·go_enter Tryz.func40,Tryz.ntmps40
  go_wp2;go_ret;exact⟨by simp[dD,h1,h2],rfl⟩
theorem eZ(x p:Int)(w:World):
  Calls Tryz.prog 128 #[.int .i64 x,.int .i64 p] w fun e w'=>e=.returned (.bool (dD x 0 (p-1)))/\w'=w:=by
 by_cases h1:0<=x<;>by_cases h2:x<p <;>
 ·go_enter Tryz.func128,Tryz.ntmps128
  go_wp2;go_ret;exact⟨by simp[dD,h1];omega,rfl⟩
def sC(f t g p:Int):Bool:=dD f 0 (p-1)&&(dD t 0 (p-1)&&(f != t&&dD g 1 1000000))
theorem uX(f t g p:Int)(hp:1<=p)(hp':p<=24)(w:World):
  Calls Tryz.prog 117 #[.agg #[.int .i64 f,.int .i64 t,.int .i64 g],.int .i64 p] w fun e w'=>e=.returned (.bool (sC f t g p))/\Below w.heap.size w w':=by
 unfold sC;rcases bq (dD f 0 (p-1)) with h1|h1
 ·rcases bq (dD t 0 (p-1)) with h2|h2
  ·rcases bq (f != t) with h3|h3 <;>
   ·go_enter Tryz.func117,Tryz.ntmps117
    go_wp2_with (go_at_call 40;refine (cP _ _ _ _).mono ?_;rintro e w1 ⟨rfl,rfl⟩)
    go_ret;exact⟨by simp[h1,h2,h3],(Below.refl _ _).alloc nl _⟩
  ·go_enter Tryz.func117,Tryz.ntmps117
   go_wp2_with (go_at_call 40;refine (cP _ _ _ _).mono ?_;rintro e w1 ⟨rfl,rfl⟩)
   go_ret;exact⟨by simp[h1,h2],(Below.refl _ _).alloc nl _⟩
 ·go_enter Tryz.func117,Tryz.ntmps117
  go_wp2_with (go_at_call 40;refine (cP _ _ _ _).mono ?_;rintro e w1 ⟨rfl,rfl⟩)
  go_ret;exact⟨by simp[h1],(Below.refl _ _).alloc nl _⟩
end
section
def pV(F T G:Nat->Int):Nat->Bool
 | 0=>true
 | k+1=>pV F T G k&&sC (F k) (T k) (G k) 24
def fX(F T G:Nat->Int)(n:Nat):Bool:=decide (1<=n)&&(decide (n<=10)&&pV F T G n)
def bL(K:Int)(n:Nat)(F T G:Nat->Int)(a b:Int):Bool:=
 if K=1 then decide (n=0)&&(decide (a=0)&&decide (b=0))
 else if K=2 then fX F T G n&&(decide (a=0)&&decide (b=0))
 else if K=3 then decide (n=0)&&(dD a 0 23&&dD b 0 23)
 else false
theorem wU{F T G:Nat->Int}:∀ {n k:Nat},k<n->sC (F k) (T k) (G k) 24=false->pV F T G n=false
 | 0,k,h,_=>by omega
 | n+1,k,h,hb=>by
  unfold pV
  by_cases e:k=n
  ·subst e;rw[hb];simp
  ·rw[wU (n:=n) (k:=k) (by omega) hb];simp
def uA(c:UInt8):Bool:=decide (97<=c.toNat)&&decide (c.toNat<=122)
def nU(ns:List Int)(j k:Nat):Int:=ns.getD (3*k+j) 0
def kN:List UInt8:=[110,111,110,101]
def iH:List UInt8:=[97,115,107]
def dF:List UInt8:=[119,101,105,103,104]
def rI(K:Int)(ns:List Int):Bool:=
 if K=1 then true else if K=2 then bL 2 (ns.length / 3) (nU ns 0) (nU ns 1) (nU ns 2) 0 0 else bL 3 0 (nU ns 0) (nU ns 0) (nU ns 0) (ns.getD 0 0) (ns.getD 1 0)
def rJ(l:List UInt8):Option (Int × List Int):=
 if l=kN then some (1,[]) else
 if 4<l.length/\l.take 4=iH++[32] then (match bG (l.drop 4) [] [] with|some ns=>if ns.length=2 then some (3,ns) else none|none=>none) else
 if 6<l.length/\l.take 6=dF++[32] then (match bG (l.drop 6) [] [] with|some ns=>if ns.length%3=0 then some (2,ns) else none|none=>none) else none
def vU(l:List UInt8):Option (List UInt8 × List Int):=
 match l.dropWhile uA with
 | []=>some (l,[])
 | c :: t=>if c=32 then (aZ t (.ahead [])).map (fun ns=>(l.takeWhile uA,ns)) else none
def kZ(nm:List UInt8)(ns:List Int):Option (Int × List Int):=
 if nm=kN then (if ns.length=0 then some (1,[]) else none) else
 if nm=dF then (if ns.length%3=0 then some (2,ns) else none) else
 if nm=iH then (if ns.length=2 then some (3,ns) else none) else none
def S6(l:List UInt8):Option (Int × List Int):=match vU l with|some (nm,ns)=>kZ nm ns|none=>none
def cW(r:Option (Int × List Int)):Option (Int × List Int):=match r with|some (K,ns)=>if rI K ns=true then some (K,ns) else none|none=>none
theorem BN{x lo hi:Int}:dD x lo hi=true↔lo<=x/\x<=hi:=by simp[dD]
theorem V3{f t g p:Int}:sC f t g p=true↔(0<=f/\f<=p-1)/\(0<=t/\t<=p-1)/\f≠t/\1<=g/\g<=1000000:=by simp[sC,dD]
theorem L1{F T G:Nat->Int}:∀ {n k:Nat},pV F T G n=true->k<n->sC (F k) (T k) (G k) 24=true
 | 0,k,_,h=>by omega
 | n+1,k,hb,h=>by
  unfold pV at hb;rw[Bool.and_eq_true]at hb
  by_cases e:k=n
  ·subst e;exact hb.2
  ·exact L1 hb.1 (by omega)
theorem ES{ns:List Int}(hl:ns.length=2)(h:rI 3 ns=true):tG 0 ns:=by
 match ns,hl with
 | [a,b],_=>
  simp[rI,bL,BN]at h;exact⟨by simp;omega,by simp⟩
theorem ET{ns:List Int}(hl:ns.length%3=0)(h:rI 2 ns=true):tG 0 ns:=by
 simp[rI,bL,fX]at h;obtain⟨h1,h2,h3⟩:=h;refine⟨fun x hx=>?_,by omega⟩;simp at hx;obtain⟨i,hi,rfl⟩:=List.getElem_of_mem hx;have hb:=V3.1 (L1 (k:=i / 3) h3 (by omega))
 have hg:∀ j,3*(i / 3)+j=i->nU ns j (i / 3)=ns[i]:=fun j e=>by
  unfold nU;rw[e];simp[List.getD,hi]
 have hm:i%3=0\/i%3=1\/i%3=2:=by omega
 rcases hm with hm|hm|hm
 ·rw[<-hg 0 (by omega)];omega
 ·rw[<-hg 1 (by omega)];omega
 ·rw[<-hg 2 (by omega)];omega
theorem F7(l:List UInt8):l=l.takeWhile uA++l.dropWhile uA:=(List.takeWhile_append_dropWhile).symm
theorem V4{l:List UInt8}(h:l.take 4=iH++[32]):l.takeWhile uA=iH/\l.dropWhile uA=32 :: l.drop 4:=by
 match l,h with
 | a :: b :: c :: d :: t,h=>
  simp[iH]at h;obtain⟨rfl,rfl,rfl,rfl⟩:=h;exact⟨rfl,rfl⟩
 | [a,b,c],h=>simp[iH]at h
 | [a,b],h=>simp[iH]at h
 | [a],h=>simp[iH]at h
 | [],h=>simp[iH]at h
theorem F8{l:List UInt8}(h:l.take 6=dF++[32]):l.takeWhile uA=dF/\l.dropWhile uA=32 :: l.drop 6:=by
 match l,h with
 | a :: b :: c :: d :: e :: f :: t,h=>
  simp[dF]at h;obtain⟨rfl,rfl,rfl,rfl,rfl,rfl⟩:=h;exact⟨rfl,rfl⟩
 | [a,b,c,d,e],h=>simp[dF]at h
 | [a,b,c,d],h=>simp[dF]at h
 | [a,b,c],h=>simp[dF]at h
 | [a,b],h=>simp[dF]at h
 | [a],h=>simp[dF]at h
 | [],h=>simp[dF]at h
theorem nH{t:List UInt8}{ns:List Int}:aZ t (.ahead [])=some ns↔bG t [] []=some ns/\tG 0 ns:=(wQ t).1 [] ns (by simp)
theorem vV:bG [] [] []=none:=by simp[bG,pH]
theorem wD{t:List UInt8}{K:Int}{C:List Int->Prop}[DecidablePred C](hf:∀ ns,C ns->rI K ns=true->tG 0 ns):
  cW (match aZ t (.ahead []) with|some ns=>if C ns then some (K,ns) else none|none=>none)=cW (match bG t [] [] with|some ns=>if C ns then some (K,ns) else none|none=>none):=by
 cases hs:bG t [] [] with
 | none=>
  have hi:aZ t (.ahead [])=none:=by
   cases hi:aZ t (.ahead []) with
   | none=>rfl
   | some ns=>have:=(nH.1 hi).1;rw[hs]at this;cases this
  rw[hi]
 | some ns=>
  by_cases hF:tG 0 ns
  ·rw[nH.2 ⟨hs,hF⟩]
  ·have hi:aZ t (.ahead [])=none:=by
    cases hi:aZ t (.ahead []) with
    | none=>rfl
    | some ns'=>
     have:=nH.1 hi;rw[hs]at this;obtain⟨e,hF'⟩:=this;cases e;exact absurd hF' hF
   rw[hi]
   by_cases hC:C ns
   ·have hk:rI K ns=false:=by
     cases hk:rI K ns with
     | false=>rfl
     | true=>exact absurd (hf ns hC hk) hF
    simp[cW,hC,hk]
   ·simp[cW,hC]
theorem P7(l:List UInt8):cW (S6 l)=cW (rJ l):=by
 by_cases h1:l=kN
 ·subst h1
  have e1:S6 kN=some (1,[]):=by decide
  have e2:rJ kN=some (1,[]):=by simp[rJ]
  rw[e1,e2]
 by_cases h2:l.take 4=iH++[32]
 ·obtain⟨hn,hd⟩:=V4 h2
  have e1:S6 l=match aZ (l.drop 4) (.ahead []) with|some ns=>if ns.length=2 then some (3,ns) else none|none=>none:=by
   unfold S6 vU;rw[hd,hn];simp only[if_pos];cases aZ (l.drop 4) (.ahead []) with
   | none=>rfl
   | some ns=>simp[kZ,iH,kN,dF]
  rw[e1,wD (fun ns hC hk=>ES hC hk)]
  by_cases h4:4<l.length
  ·unfold rJ
   rw[if_neg h1,if_pos ⟨h4,h2⟩]
  ·have hdr:l.drop 4=[]:=List.drop_eq_nil_of_le (by omega)
   have h6:¬ 6<l.length:=by omega
   unfold rJ;rw[if_neg h1,if_neg (fun e=>h4 e.1),if_neg (fun e=>h6 e.1),hdr,vV]
 by_cases h3:l.take 6=dF++[32]
 ·obtain⟨hn,hd⟩:=F8 h3
  have e1:S6 l=match aZ (l.drop 6) (.ahead []) with|some ns=>if ns.length%3=0 then some (2,ns) else none|none=>none:=by
   unfold S6 vU;rw[hd,hn];simp only[if_pos];cases aZ (l.drop 6) (.ahead []) with
   | none=>rfl
   | some ns=>simp[kZ,iH,kN,dF]
  rw[e1,wD (fun ns hC hk=>ET hC hk)]
  by_cases h6:6<l.length
  ·unfold rJ
   rw[if_neg h1,if_neg (fun e=>h2 e.2),if_pos ⟨h6,h3⟩]
  ·have hdr:l.drop 6=[]:=List.drop_eq_nil_of_le (by omega)
   unfold rJ;rw[if_neg h1,if_neg (fun e=>h2 e.2),if_neg (fun e=>h6 e.1),hdr,vV]
 have e2:rJ l=none:=by
  unfold rJ;rw[if_neg h1,if_neg (fun e=>h2 e.2),if_neg (fun e=>h3 e.2)]
 rw[e2];have hsp:=F7 l;unfold S6 vU;cases hd:l.dropWhile uA with
 | nil=>
  simp only[];unfold kZ;rw[if_neg h1]
  by_cases hw:l=dF
  ·subst hw
   simp[cW,rI,bL,fX]
  ·rw[if_neg hw]
   by_cases ha:l=iH
   ·rw[if_pos ha];simp[cW]
   ·rw[if_neg ha]
 | cons c t=>
  simp only[]
  by_cases hc:c=32
  ·rw[if_pos hc]
   subst hc;rw[hd]at hsp;cases hi:aZ t (.ahead []) with
   | none=>rfl
   | some ns=>
    simp only[Option.map_some];unfold kZ
    by_cases ha:l.takeWhile uA=iH
    ·exact absurd (by rw[hsp,ha];simp[iH]) h2
    by_cases hw:l.takeWhile uA=dF
    ·exact absurd (by rw[hsp,hw];simp[dF]) h3
    rw[if_neg hw,if_neg ha]
    by_cases hno:l.takeWhile uA=kN
    ·rw[if_pos hno]
     by_cases h0:ns.length=0
     ·have:ns=[]:=List.length_eq_zero_iff.1 h0
      subst this;have hs:=(nH.1 hi).1;exfalso
      have hlong:∀ (l cur:List UInt8),bG l [] cur≠some []:=by
       intro l
       induction l with
       | nil=>intro cur;simp[bG]
       | cons d u ih=>
        intro cur;unfold bG
        split
        ·cases hn:fT cur with
         | none=>simp
         | some n=>
          simp only[];intro h;have:=(fG u ([]++[n]) [] [] h).length_le;simp at this
        ·exact ih _
      exact hlong _ _ hs
     ·rw[if_neg h0]
    ·rw[if_neg hno]
  ·rw[if_neg hc]
end
section
open Go.RowKit
attribute [local go_sem ↓] Go.wp_at_zero Go.wp_at_succ
def Cut(l:List UInt8)(r:Int)(l':List UInt8):Prop:=
 match l with
 | []=>r = -1/\l'=[]
 | c :: t=>l'.length<=t.length/\((c.toNat<128/\r=(c.toNat:Int)/\l'=t)\/(128<=c.toNat/\128<=r/\r<=2147483647))
theorem Cut.bd{l l':List UInt8}{r:Int}(h:Cut l r l'):-1<=r/\r<=2147483647:=by
 cases l with
 | nil=>simp[Cut]at h;omega
 | cons c t=>
  obtain⟨_,h|h⟩:=h
  ·omega
  ·omega
theorem Cut.len{l l':List UInt8}{r:Int}(h:Cut l r l'):l'.length<=l.length/\(0<=r->l'.length<l.length):=by
 cases l with
 | nil=>simp[Cut]at h;simp[h]
 | cons c t=>
  have:=h.1;simp;omega
theorem qD(s:ByteArray)(pos:Nat)(h:pos<s.size):1<=(Utf8.decode s pos).2:=by
 by_cases ha:(s[pos]'h).toNat<128
 ·rw[decode_ascii s pos h ha]
  exact Nat.le_refl _
 ·exact (decode_high s pos h (by omega)).2
theorem oF(w:World)(s:ByteArray)(pos:Nat):Below w.heap.size w (w.iter s pos):=(Below.refl _ _).alloc nl _
theorem Y9{B:Nat}{a w:World}(h:Below B a w)(n:Nat):Below B a (w.drewN n):=⟨h.os,h.tape,h.output,h.size,h.block⟩
theorem BX(s:ByteArray)(h:0<s.size):s.data.toList=s[0] :: s.data.toList.tail:=by
 have h':0<s.data.toList.length:=by simpa using h
 have e:s[0]=s.data.toList[0]:=by simp;rfl
 rw[e]
 exact (fun (l:List UInt8) (h:0<l.length)=>show l=l[0] :: l.tail from by
  cases l with
  | nil=>simp at h
  | cons c t=>simp) s.data.toList h'
theorem Z0(s:ByteArray)(h:0<s.size)(l':List UInt8)(h1:l'=s.data.toList.drop (Utf8.decode s 0).2):Cut s.data.toList ((Utf8.decode s 0).1:Int) l':=by
 have hw:=qD s 0 h;rw[BX s h]at h1 ⊢;have hlen:s.data.toList.tail.length=s.size-1:=by simp
 by_cases ha:(s[0]'h).toNat<128
 ·rw[decode_ascii s 0 h ha]at h1 ⊢
  simp at h1;subst h1;exact⟨Nat.le_refl _,.inl ⟨ha,rfl,rfl⟩⟩
 ·have hd:=decode_high s 0 h (by omega)
  have hle:=decode_le s 0;refine⟨?_,.inr ⟨by omega,by omega,by omega⟩⟩;rw[h1,List.length_drop];simp only[List.length_cons];omega
theorem xX(s:ByteArray)(k:Nat):(s.extract k s.size).data.toList=s.data.toList.drop k:=by
 simp[ByteArray.data_extract];exact List.take_of_length_le (by simp)
theorem kF(s:ByteArray)(hs:s.size<=1048576)(w:World):
  Calls Tryz.prog 112 #[.string s] w fun e w'=>∃ (r:Int) (t:ByteArray),e=.returned (.tuple #[.int .i32 r,.string t])/\Cut s.data.toList r t.data.toList/\Below w.heap.size w w':=by
 go_enter Tryz.func112,Tryz.ntmps112;go_wp2
 go_loopw [4] (fun f w'=>∃ pos:Nat,w'=w.iter s pos/\((pos=0/\f=.int .i32 (-1))\/(0<s.size/\pos=(Utf8.decode s 0).2/\f=.int .i32 (Utf8.decode s 0).1))) (fun _ w'=>s.size-w'.iterPos w.heap.size)
 case atStart=>exact⟨0,rfl,.inl ⟨rfl,rfl⟩⟩
 case round=>
  obtain⟨pos,rfl,h⟩:=hrel
  by_cases hp:pos<s.size
  ·have hnx:∀ ty,(Instr.next (.pointer (some ⟨w.heap.size,0,none⟩)) true ty).run Tryz.prog (w.iter s pos) = _:=fun ty=>run_next_any w s pos ty hp
   have hwd:=qD s pos hp;rcases h with ⟨rfl,rfl⟩|⟨h0,rfl,rfl⟩
   ·go_wp2
    go_roundw
    case rel=>exact⟨(Utf8.decode s 0).2,by simp,.inr ⟨hp,rfl,rfl⟩⟩
    case measure=>simp;omega
   ·have hw0:=qD s 0 h0
    have hpos:(0:Int)<((Utf8.decode s 0).2:Int):=by omega
    go_wp2
    go_quiet (fail)
    go_wp2
    go_ret2
    exact⟨_,_,rfl,Z0 s h0 _ (xX s _),Y9 (oF _ _ _) _⟩
  ·have hnx:∀ ty,(Instr.next (.pointer (some ⟨w.heap.size,0,none⟩)) true ty).run Tryz.prog (w.iter s pos) = _:=fun ty=>run_next_end w s pos ty hp
   rcases h with ⟨rfl,rfl⟩|⟨h0,rfl,rfl⟩
   ·have hsz:s.size=0:=by omega
    have hl:s.data.toList=[]:=List.eq_nil_of_length_eq_zero (by simpa using hsz);go_wp2
    go_ret2
    exact⟨_,_,rfl,by rw[hl];exact⟨rfl,rfl⟩,oF _ _ _⟩
   ·go_wp2
    go_ret2
    exact⟨_,_,rfl,Z0 s h0 _ (by rw[List.drop_eq_nil_of_le (by simp;omega)]),oF _ _ _⟩
def zW(r:Int):Bool:=decide (48<=r)&&decide (r<=57)
theorem kG(r:Int)(w:World):
  Calls Tryz.prog 113 #[.int .i32 r] w fun e w'=>e=.returned (.bool (zW r))/\w'=w:=by
 by_cases h1:48<=r<;>by_cases h2:r<=57 <;>
 ·go_enter Tryz.func113,Tryz.ntmps113
  go_wp2;go_ret;exact⟨by simp[zW,h1,h2],rfl⟩
end
section
def pW(l rest:List UInt8):Prop:=∃ pre,l=pre++rest/\pre.all uA=true
theorem rW{pre rest:List UInt8}(h:pre.all uA=true)(hr:∀ c t,rest=c :: t->uA c=false):(pre++rest).dropWhile uA=rest/\(pre++rest).takeWhile uA=pre:=by
 induction pre with
 | nil=>
  cases rest with
  | nil=>exact⟨rfl,rfl⟩
  | cons c t=>simp[hr c t rfl]
 | cons d u ih=>
  simp at h;obtain⟨h1,h2⟩:=ih (by simpa using h.2);simp[h.1,h1,h2]
theorem J9{c:UInt8}:uA c=true↔97<=(c.toNat:Int)/\(c.toNat:Int)<=122:=by simp[uA];omega
theorem yT{l rest rest':List UInt8}{r:Int}(h:pW l rest)(hc:Cut rest r rest')(h1:97<=r)(h2:r<=122):pW l rest':=by
 obtain⟨pre,e,hp⟩:=h;cases rest with
 | nil=>simp[Cut]at hc;omega
 | cons c t=>
  rcases hc.2 with ⟨g1,g2,g3⟩|⟨g1,g2,_⟩
  ·subst g3
   exact⟨pre++[c],by rw[e];simp,by rw[List.all_append,hp];simp;exact J9.2 (by omega)⟩
  ·omega
theorem T1{l rest rest':List UInt8}(h:pW l rest)(hc:Cut rest (-1) rest'):vU l=some (l,[]):=by
 obtain⟨pre,e,hp⟩:=h;cases rest with
 | nil=>
  have:=rW (rest:=[]) hp (fun c t h=>by cases h);rw[<-e]at this;unfold vU;rw[this.1]
 | cons c t=>
  rcases hc.2 with ⟨g1,g2,g3⟩|⟨g1,g2,_⟩
  ·omega
  ·omega
theorem C4{l rest rest':List UInt8}(h:pW l rest)(hc:Cut rest 32 rest'):vU l=(aZ rest' (.ahead [])).map (fun ns=>(l.take (l.length-rest'.length-1),ns))/\rest'.length+1<=l.length:=by
 obtain⟨pre,e,hp⟩:=h;cases rest with
 | nil=>simp[Cut]at hc
 | cons c t=>
  rcases hc.2 with ⟨g1,g2,g3⟩|⟨g1,g2,_⟩
  ·subst g3
   have h32:c=32:=UInt8.toNat_inj.1 (by simp;omega);subst h32;have:=rW (rest:=32 :: rest') hp (fun c t h=>by cases h;decide);rw[<-e]at this
   have hl:l.take (l.length-rest'.length-1)=pre:=by
    rw[e];have:(pre++32 :: rest').length-rest'.length-1=pre.length:=by simp;omega
    rw[this];simp
   refine⟨?_,by rw[e];simp⟩;rw[hl];unfold vU;rw[this.1,this.2];simp
  ·omega
theorem C5{l rest rest':List UInt8}{r:Int}(h:pW l rest)(hc:Cut rest r rest')(h1:¬ (97<=r/\r<=122))(h2:r≠32)(h3:r≠-1):vU l=none:=by
 obtain⟨pre,e,hp⟩:=h;cases rest with
 | nil=>simp[Cut]at hc;omega
 | cons c t=>
  have hl:uA c=false:=by
   cases hl:uA c with
   | false=>rfl
   | true=>
    have:=J9.1 hl;rcases hc.2 with ⟨g1,g2,g3⟩|⟨g1,g2,_⟩
    ·omega
    ·omega
  have h32:c≠32:=by
   rintro rfl;rcases hc.2 with ⟨g1,g2,g3⟩|⟨g1,g2,_⟩
   ·simp at g2;omega
   ·simp at g1
  have:=rW (rest:=c :: t) hp (fun d u h=>by cases h;exact hl);rw[<-e]at this;unfold vU;rw[this.1];simp[h32]
theorem pX{rest rest':List UInt8}{r:Int}{out:List Int}(hc:Cut rest r rest')(ho:out.length≠30):
  (r=48->aZ rest (.ahead out)=aZ rest' (.behind (out++[0])))/\(49<=r/\r<=57->aZ rest (.ahead out)=aZ rest' (.within (r-48) out))/\(¬ (48<=r/\r<=57)->aZ rest (.ahead out)=none):=by
 cases rest with
 | nil=>
  simp[Cut]at hc;exact⟨fun h=>by omega,fun h=>by omega,fun _=>rfl⟩
 | cons c t=>
  have hi:aZ (c :: t) (.ahead out)=if c=48 then aZ t (.behind (out++[0])) else if iU c=true then aZ t (.within (dg c) out) else none:=by simp[aZ,ho]
  rw[hi];rcases hc.2 with ⟨g1,g2,g3⟩|⟨g1,g2,_⟩
  ·subst g3
   refine⟨fun h=>?_,fun h=>?_,fun h=>?_⟩
   ·have:c=48:=UInt8.toNat_inj.1 (by simp;omega)
    simp[this]
   ·have h48:c≠48:=fun e=>by rw[e]at g2;simp at g2;omega
    have hd:iU c=true:=by simp[iU];omega
    have hg:dg c=r-48:=by unfold dg;omega
    simp[h48,hd,hg]
   ·have h48:c≠48:=fun e=>by rw[e]at g2;simp at g2;omega
    have hd:iU c=false:=by simp[iU];omega
    simp[h48,hd]
  ·have h48:c≠48:=fun e=>by rw[e]at g1;simp at g1
   have hd:iU c=false:=by simp[iU];omega
   exact⟨fun h=>by omega,fun h=>by omega,fun h=>by simp[h48,hd]⟩
def EC(r:Int)(rest:List UInt8)(out:List Int):Option (List Int):=if r=32 then aZ rest (.ahead out) else if r = -1 then some out else none
theorem C6{rest rest':List UInt8}{r:Int}{out:List Int}(hc:Cut rest r rest'):aZ rest (.behind out)=EC r rest' out:=by
 unfold EC;cases rest with
 | nil=>
  simp[Cut]at hc;simp[hc,aZ]
 | cons c t=>
  rcases hc.2 with ⟨g1,g2,g3⟩|⟨g1,g2,_⟩
  ·subst g3
   by_cases h:c=32
   ·subst h
    have:r=32:=by simpa using g2
    simp[aZ,this]
   ·have h32:r≠32:=fun e=>h (UInt8.toNat_inj.1 (by simp;omega))
    have h1:r≠-1:=by omega
    simp[aZ,h,h32,h1]
  ·have h:c≠32:=fun e=>by rw[e]at g1;simp at g1
   have h32:r≠32:=by omega
   have h1:r≠-1:=by omega
   simp[aZ,h,h32,h1]
theorem rX{rest rest':List UInt8}{r n:Int}{out:List Int}(hc:Cut rest r rest'):
  (48<=r/\r<=57->aZ rest (.within n out)=if 999999999<10*n+(r-48) then none else aZ rest' (.within (10*n+(r-48)) out))/\(¬ (48<=r/\r<=57)->aZ rest (.within n out)=EC r rest' (out++[n])):=by
 unfold EC;cases rest with
 | nil=>
  simp[Cut]at hc;exact⟨fun h=>by omega,fun h=>by simp[hc,aZ]⟩
 | cons c t=>
  rcases hc.2 with ⟨g1,g2,g3⟩|⟨g1,g2,_⟩
  ·subst g3
   refine⟨fun h=>?_,fun h=>?_⟩
   ·have hd:iU c=true:=by simp[iU];omega
    have hg:dg c=r-48:=by unfold dg;omega
    simp[aZ,hd,hg]
   ·have hd:iU c=false:=by simp[iU];omega
    by_cases h3:c=32
    ·subst h3
     have:r=32:=by simpa using g2
     simp[aZ,hd,this]
    ·have h32:r≠32:=fun e=>h3 (UInt8.toNat_inj.1 (by simp;omega))
     have h1:r≠-1:=by omega
     simp[aZ,hd,h3,h32,h1]
  ·have hd:iU c=false:=by simp[iU];omega
   have h3:c≠32:=fun e=>by rw[e]at g1;simp at g1
   have h32:r≠32:=by omega
   have h1:r≠-1:=by omega
   exact⟨fun h=>by omega,fun h=>by simp[aZ,hd,h3,h32,h1]⟩
end
section
open Go
def gS(J:Nat->Act->World->Prop)(Q:Exit->Act->World->Prop):Exit->Act->World->Prop
 | .goto l,a,w=>J l a w
 | e,a,w=>Q e a w
section
variable {P:Program} {a:Act} {w:World} {Q:Exit->Act->World->Prop}
theorem qI(J:Nat->Act->World->Prop):gS J Q .ret a w=Q .ret a w:=rfl
theorem B1{c:Code}{Q':Exit->Act->World->Prop}(h:∀ e a w,Q e a w->Q' e a w)(hc:c.wp P Q a w):c.wp P Q' a w:=fun b k cs=>
 let ⟨e,a₁,w₁,hq,harr⟩:=hc b k cs
 ⟨e,a₁,w₁,h _ _ _ hq,harr⟩
theorem tM{J J':Nat->Act->World->Prop}(h:∀ l a w,J l a w->J' l a w):∀ e a w,gS J Q e a w->gS J' Q e a w
 | .goto l,a,w,hq=>h l a w hq
 | .normal,_,_,hq=>hq
 | .exit _,_,_,hq=>hq
 | .ret,_,_,hq=>hq
 | .panic _,_,_,hq=>hq
 | .outgrown,_,_,hq=>hq
theorem uP{c:Code}(J:Nat->Act->World->Prop)(μ : Nat->Act->World->Nat)(R:Nat->Code)(hf:∀ l a w,J l a w->findLabel c l=some (R l))
  (first:c.wp P (gS J Q) a w)
  (pass:∀ l a w,J l a w->(R l).wp P (gS (fun l' a' w'=>J l' a' w'/\μ l' a' w' < μ l a w) Q) a w):(Code.scope c).wp P Q a w:=by
 intro b k cs;have hg:∀ l,findLabel c l=some (R l)->gotoIn l (.inScope c :: k)=some (.code (R l) :: .inScope c :: k):=fun l hf=>by simp[gotoIn,hf]
 have key:∀ n l a w,μ l a w=n->J l a w->∃ e a' w',Q e a' w'/\Arrives P (lone (b.at a (.code (R l) :: .inScope c :: k)) cs w) b k cs e a' w':=by
  intro n
  induction n using Nat.strongRecOn with
  | _ n ih=>
   intro l a w hn hJ;obtain⟨e,a₁,w₁,hq,harr⟩:=pass l a w hJ b (.inScope c :: k) cs;cases e with
   | normal=>exact⟨.normal,a₁,w₁,hq,Steps.trans harr (.one step_inScope)⟩
   | exit id=>exact⟨.exit id,a₁,w₁,hq,fun k' hk=>harr k' (by simp[exitTo,hk])⟩
   | goto l'=>
    obtain⟨hJ',hlt⟩:=hq;obtain⟨e₂,a₂,w₂,hq₂,harr₂⟩:=ih _ (by omega) l' a₁ w₁ rfl hJ';exact⟨e₂,a₂,w₂,hq₂,.of_steps (harr _ (hg l' (hf l' a₁ w₁ hJ'))) harr₂⟩
   | ret=>exact⟨_,a₁,w₁,hq,harr⟩
   | panic ch=>exact⟨_,a₁,w₁,hq,harr⟩
   | outgrown=>exact⟨_,a₁,w₁,hq,harr⟩
 obtain⟨e,a₁,w₁,hq,harr⟩:=first b (.inScope c :: k) cs;cases e with
 | normal=>exact⟨.normal,a₁,w₁,hq,.head step_scope (Steps.trans harr (.one step_inScope))⟩
 | exit id=>exact⟨.exit id,a₁,w₁,hq,fun k' hk=>.head step_scope (harr k' (by simp[exitTo,hk]))⟩
 | goto l'=>
  have hJ':J l' a₁ w₁ := hq;obtain⟨e₂,a₂,w₂,hq₂,harr₂⟩:=key _ l' a₁ w₁ rfl hJ';exact⟨e₂,a₂,w₂,hq₂,.of_steps (.head step_scope (harr _ (hg l' (hf l' a₁ w₁ hJ')))) harr₂⟩
 | ret=>exact⟨_,a₁,w₁,hq,.of_steps (.one step_scope) harr⟩
 | panic ch=>exact⟨_,a₁,w₁,hq,.of_steps (.one step_scope) harr⟩
 | outgrown=>exact⟨_,a₁,w₁,hq,.of_steps (.one step_scope) harr⟩
def tN(J0 J1 J2 J3 J4:Act->World->Prop):Nat->Act->World->Prop
 | 0=>J0
 | 1=>J1
 | 2=>J2
 | 3=>J3
 | 4=>J4
 | _=>fun _ _=>False
def FZ(R0 R1 R2 R3 R4:Code):Nat->Code
 | 0=>R0
 | 1=>R1
 | 2=>R2
 | 3=>R3
 | _=>R4
def pQ(J:Nat->Act->World->Prop)(μ : Nat->Act->World->Nat)(n:Nat)(l':Nat)(a':Act)(w':World):Prop:=J l' a' w'/\μ l' a' w'<n
theorem R9{J:Nat->Act->World->Prop}{μ : Nat->Act->World->Nat}{n m:Nat}(h:n<=m):∀ l a w,pQ J μ n l a w->pQ J μ m l a w:=fun _ _ _ ⟨h1,h2⟩=>⟨h1,Nat.lt_of_lt_of_le h2 h⟩
theorem yK{c:Code}{J:Nat->Act->World->Prop}{μ : Nat->Act->World->Nat}{n m:Nat}(h:n<=m)(hc:c.wp P (gS (pQ J μ n) Q) a w):c.wp P (gS (pQ J μ m) Q) a w:=B1 (tM (R9 h)) hc
theorem CG{c:Code}{J:Nat->Act->World->Prop}{μ : Nat->Act->World->Nat}{n:Nat}(hc:c.wp P (gS (pQ J μ n) Q) a w):c.wp P (gS J Q) a w:=B1 (tM (fun _ _ _ h=>h.1)) hc
theorem S0{c R0 R1 R2 R3 R4:Code}(f0:findLabel c 0=some (Code.skip.seq R0))(f1:findLabel c 1=some (Code.skip.seq R1))(f2:findLabel c 2=some (Code.skip.seq R2))(f3:findLabel c 3=some (Code.skip.seq R3))(f4:findLabel c 4=some (Code.skip.seq R4))
  (J0 J1 J2 J3 J4:Act->World->Prop) (μ : Nat->Act->World->Nat)
  (p2:∀ a w,J2 a w->R2.wp P (gS (pQ (tN J0 J1 J2 J3 J4) μ (μ 2 a w)) Q) a w)
  (p3:(∀ a w,J2 a w->R2.wp P (gS (pQ (tN J0 J1 J2 J3 J4) μ (μ 2 a w)) Q) a w)->∀ a w,J3 a w->R3.wp P (gS (pQ (tN J0 J1 J2 J3 J4) μ (μ 3 a w)) Q) a w)
  (p4:(∀ a w,J3 a w->R3.wp P (gS (pQ (tN J0 J1 J2 J3 J4) μ (μ 3 a w)) Q) a w)->∀ a w,J4 a w->R4.wp P (gS (pQ (tN J0 J1 J2 J3 J4) μ (μ 4 a w)) Q) a w)
  (p1:(∀ a w,J4 a w->R4.wp P (gS (pQ (tN J0 J1 J2 J3 J4) μ (μ 4 a w)) Q) a w)->∀ a w,J1 a w->R1.wp P (gS (pQ (tN J0 J1 J2 J3 J4) μ (μ 1 a w)) Q) a w)
  (p0:∀ a w,J0 a w->R0.wp P (gS (pQ (tN J0 J1 J2 J3 J4) μ (μ 0 a w)) Q) a w)
  (first:(∀ a w,J0 a w->R0.wp P (gS (pQ (tN J0 J1 J2 J3 J4) μ (μ 0 a w)) Q) a w)->c.wp P (gS (tN J0 J1 J2 J3 J4) Q) a w):(Code.scope c).wp P Q a w:=by
 refine uP (tN J0 J1 J2 J3 J4) μ (FZ (Code.skip.seq R0) (Code.skip.seq R1) (Code.skip.seq R2) (Code.skip.seq R3) (Code.skip.seq R4)) (fun l a w h=>?_) (first p0) (fun l a w h=>?_)
 ·match l,h with
  | 0,_=>exact f0
  | 1,_=>exact f1
  | 2,_=>exact f2
  | 3,_=>exact f3
  | 4,_=>exact f4
  | _+5,h=>exact h.elim
 ·match l,h with
  | 0,h=>exact wp_seq (wp_skip (p0 a w h))
  | 1,h=>exact wp_seq (wp_skip (p1 (p4 (p3 p2)) a w h))
  | 2,h=>exact wp_seq (wp_skip (p2 a w h))
  | 3,h=>exact wp_seq (wp_skip (p3 p2 a w h))
  | 4,h=>exact wp_seq (wp_skip (p4 (p3 p2) a w h))
  | _+5,h=>exact h.elim
end
end
section
open Go.RowKit
attribute [local go_sem ↓] Go.wp_at_zero Go.wp_at_succ
def IRow(w:World)(ao:Option Addr)(n:Nat)(f:Nat->Int):Prop:=∀ k,k<n->∃ b o,ao=some ⟨b,o,none⟩/\w.cell? ⟨b,o+k,none⟩=some (.int .i64 (f k))
theorem IRow.below{w w':World}{B:Nat}{ao:Option Addr}{n:Nat}{f:Nat->Int}(h:IRow w ao n f)(hb:Below B w w')(hB:w.heap.size<=B):IRow w' ao n f:=fun k hk=>by
 obtain⟨b,o,e,c0⟩:=h k hk;have hlt:=dB c0;exact⟨b,o,e,by rw[hb.cell (by simp;omega)];exact c0⟩
def IHas(w:World)(b n:Nat)(f:Nat->Int):Prop:=∃ cur:Array Value,w.heap[b]?=some (.cells cur 2 (0,0))/\n<=cur.size/\∀ j,j<n->cur[j]?=some (.int .i64 (f j))
theorem IHas.cell{w:World}{b n:Nat}{f:Nat->Int}(h:IHas w b n f){j:Nat}(hj:j<n):w.cell? ⟨b,j,none⟩=some (.int .i64 (f j)):=by
 obtain⟨c,hb,_,hc⟩:=h;simp[World.cell?,hb,hc j hj]
theorem IHas.lt{w:World}{b n:Nat}{f:Nat->Int}(h:IHas w b n f):b<w.heap.size:=by
 obtain⟨c,hb,_,_⟩:=h;exact (Array.getElem?_eq_some_iff.1 hb).1
theorem IHas.of_block{w w':World}{b n:Nat}{f:Nat->Int}(h:IHas w b n f)(e:w'.heap[b]?=w.heap[b]?):IHas w' b n f:=by
 obtain⟨c,hb,hn,hc⟩:=h;exact⟨c,e.trans hb,hn,hc⟩
theorem IHas.below{w w':World}{b n B:Nat}{f:Nat->Int}(h:IHas w b n f)(hb:Below B w w')(hB:b<B):IHas w' b n f:=h.of_block (hb.block b hB)
theorem IHas.grown{w w':World}{b n:Nat}{f:Nat->Int}{row:Option Nat}(h:IHas w b n f)(hg:w.grownBy w' row)(hne:some b≠row):IHas w' b n f:=h.of_block (hg.block b h.lt hne)
theorem Tryz.infoInt:(Tryz.prog.info? 2).map (fun i=>(i.zero,i.size,i.bytes))=some (some (.int .i64 0),1,8):=by kernel_rfl
theorem vH(n:Nat)(hn:n<=1048576)(w:World):
  (Instr.makeSlice 25 (.int .i64 (n:Int)) (.int .i64 (n:Int))).run Tryz.prog w=.ok (.slice (some ⟨w.heap.size,0,none⟩) n n) (w.alloc (.cells (madeCells #[.int .i64 0] n) 2)):=
 run_make_row' 25 2 _ 8 Tryz.underlying25 Tryz.infoInt rfl .i64 .i64 n (by omega) (by omega) w
end
section
open Go.RowKit
def eY(f:Nat->Int)(n:Nat):List Value:=(List.range n).map fun j=>.int .i64 (f j)
theorem nG{f:Nat->Int}{n j:Nat}(hj:j<n):(eY f n)[j]?=some (.int .i64 (f j)):=by
 rw[eY,List.getElem?_map,List.getElem?_range hj];rfl
theorem sJ(f:Nat->Int)(n:Nat):(eY f n).length=n:=by simp[eY]
theorem oZ{f g:Nat->Int}{n:Nat}(h:∀ j,j<n->f j=g j):eY f n=eY g n:=by
 apply List.ext_getElem?;intro j
 by_cases hj:j<n
 ·rw[nG hj,nG hj,h j hj]
 ·rw[List.getElem?_eq_none (by rw[sJ];omega),List.getElem?_eq_none (by rw[sJ];omega)]
theorem sL{f g:Nat->Int}{n:Nat}(v:Int)(h1:∀ j,j<n->f j=g j)(h2:g n=v):eY f n++[.int .i64 v]=eY g (n+1):=by
 rw[oZ h1];simp[eY,List.range_succ,h2]
def IOwn(w:World)(base g cap n:Nat)(f:Nat->Int):Prop:=w.ownsRow base 2 1 (.slice (some ⟨g,0,none⟩) n cap) n (eY f n)
theorem IOwn.has{w:World}{base g cap n:Nat}{f:Nat->Int}(h:IOwn w base g cap n f):IHas w g n f:=by
 obtain⟨hl,h0|⟨g',cap',cur,hv,hb,hh,h1,h2,h3,h4⟩⟩:=h
 ·simp at h0
 ·simp at hv
  obtain⟨rfl,rfl⟩:=hv;refine⟨cur,hh,by omega,fun j hj=>?_⟩;have:(cur.toList.take (n*1))[j]?=(eY f n)[j]?:=by rw[h4]
  rw[List.getElem?_take_of_lt (by omega),nG hj]at this;simpa using this
theorem IOwn.base{w:World}{base g cap n:Nat}{f:Nat->Int}(h:IOwn w base g cap n f):base<=g:=(World.ownsRow.lt h g rfl).1
theorem IOwn.below{w w':World}{base g cap n B:Nat}{f:Nat->Int}(h:IOwn w base g cap n f)(hb:Below B w w')(hB:g<B):IOwn w' base g cap n f:=by
 refine⟨h.1,?_⟩;rcases h.2 with hn|⟨g',cap',cur,hv,hb',hgg,rest⟩
 ·exact .inl hn
 ·simp at hv
  obtain⟨rfl,rfl⟩:=hv;exact .inr ⟨g,cap,cur,rfl,hb',(hb.block g hB).trans hgg,rest⟩
theorem IOwn.lt{w:World}{base g cap n:Nat}{f:Nat->Int}(h:IOwn w base g cap n f):g<w.heap.size:=(World.ownsRow.lt h g rfl).2
theorem IOwn.empty(w:World){base:Nat}(hb:base<=w.heap.size)(f:Nat->Int):IOwn (w.alloc (.cells #[] 2)) base w.heap.size 0 0 f:=by
 have:=World.ownsRow_lit (base:=base) (e:=2) (size:=1) w #[] 0 hb (by simp) (by simp);simpa[IOwn,eY] using this
theorem kE{w:World}{ops:Array Oper}{rest:List Oper}{o:Oper}{a:Act}{Q:Exit->Act->World->Prop}(hgd:o.guard=none)(s x:Operand)
  (ho:o.op=.call { callee:=.builtin .append,args:=#[s,x],argTypes:=#[25,25] }) (base g cap n:Nat) (f:Nat->Int) (hs:a.eval s=.slice (some ⟨g,0,none⟩) n cap)
  (hown:IOwn w base g cap n f) (ad:Addr) (c:Nat) (v:Int) (hx:a.eval x=.slice (some ad) 1 c) (h0:w.cell? (ad.add 0)=some (.int .i64 v)) (hn:n<=1000000000) (hbase:base<=w.heap.size)
  (h:∀ g' cap' w',(∀ f',(∀ j,j<n->f' j=f j)->f' n=v->IOwn w' base g' cap' (n+1) f')->w.grownBy w' (some g)->(g'=g\/g'=w.heap.size)->wpList Tryz.prog ops Q rest (a.put o.dst (.slice (some ⟨g',0,none⟩) (n+1) cap')) w'):wpList Tryz.prog ops Q (o :: rest) a w:=by
 obtain⟨i,hi,hz0,hz1,hz2⟩:=info_parts Tryz.infoInt;refine wpList_append_lies w hgd s x 25 ho base 2 i _ 1 8 Tryz.underlying25 hi hz0 hz1 hz2 rfl (by omega) _ n (eY f n) hs hown ad 1 c [.int .i64 v] hx rfl ?_ ?_ (by omega) (by unfold maxLen;omega) (by omega) hbase w.heap.size rfl ?_
 ·intro j u hu
  match j,hu with
  | 0,hu=>simp at hu;subst hu;exact h0
  | j+1,hu=>simp at hu
 ·intro u hu
  simp at hu;subst hu;rfl
 ·intro g' cap' w' hown' hgrow hat hlt
  refine h g' cap' w' (fun f' e1 e2=>?_) hgrow ?_
  ·rw[sL v (fun j hj=>(e1 j hj).symm) e2]at hown'
   exact hown'
  ·rcases hat with e|e
   ·simp[Value.ownBlock]at e;exact Or.inl e.symm
   ·exact Or.inr e
def OwnE(w:World)(base:Nat)(go:Option Addr)(n cap:Nat)(f:Nat->Int):Prop:=w.ownsRow base 2 1 (.slice go n cap) n (eY f n)
theorem OwnE.nil(w:World)(base:Nat)(f:Nat->Int):OwnE w base none 0 0 f:=⟨by simp[eY],.inl ⟨rfl,rfl⟩⟩
theorem OwnE.at{w:World}{base n cap x:Nat}{go:Option Addr}{f:Nat->Int}(h:OwnE w base go n cap f)(e:(Value.slice go n cap).ownBlock=some x):base<=x/\x<w.heap.size:=World.ownsRow.lt h x e
theorem OwnE.of_block{w w':World}{base n cap:Nat}{go:Option Addr}{f:Nat->Int}(h:OwnE w base go n cap f)(e:∀ x,(Value.slice go n cap).ownBlock=some x->w'.heap[x]?=w.heap[x]?):OwnE w' base go n cap f:=by
 refine⟨h.1,?_⟩;rcases h.2 with hn|⟨g',cap',cur,hv,hb',hgg,rest⟩
 ·exact .inl hn
 ·have e2:=e g' (by rw[hv];rfl)
  exact .inr ⟨g',cap',cur,hv,hb',e2.trans hgg,rest⟩
theorem OwnE.next{w w':World}{base n cap:Nat}{go:Option Addr}{f:Nat->Int}(h:OwnE w base go n cap f)(hb:Below w.heap.size w w'):OwnE w' base go n cap f:=h.of_block (fun x e=>hb.block x (h.at e).2)
theorem OwnE.has{w:World}{base n cap:Nat}{go:Option Addr}{f:Nat->Int}(h:OwnE w base go n cap f)(hn:0<n):∃ g,go=some ⟨g,0,none⟩/\base<=g/\IHas w g n f:=by
 have h':=h;obtain⟨hl,h0|⟨g',cap',cur,hv,hb,hh,h1,h2,h3,h4⟩⟩:=h
 ·omega
 ·simp at hv
  obtain⟨rfl,rfl⟩:=hv;refine⟨g',rfl,hb,cur,hh,by omega,fun j hj=>?_⟩;have:(cur.toList.take (n*1))[j]?=(eY f n)[j]?:=by rw[h4]
  rw[List.getElem?_take_of_lt (by omega),nG hj]at this;simpa using this
theorem kM{o:Oper}{a:Act}{w:World}{K:Act->World->Prop}{Q:Exit->Act->World->Prop}(s x:Operand)
  (ho:o.op=.call { callee:=.builtin .append,args:=#[s,x],argTypes:=#[25,25] }) (base k gc:Nat) (go:Option Addr) (f:Nat->Int) (hs:a.eval s=.slice go k gc) (hown:OwnE w base go k gc f) (B:Nat) (hx:a.eval x=.slice (some ⟨B,0,none⟩) 1 1)
  (hB:w.cell? ⟨B,0,none⟩=some (.int .i64 (f k))) (hk:k<=100000000) (hbase:base<=w.heap.size)
  (h:∀ g' gc' w',OwnE w' base (some ⟨g',0,none⟩) (k+1) gc' f->w.grownBy w' (Value.slice go k gc).ownBlock->((Value.slice go k gc).ownBlock=some g'\/g'=w.heap.size)->K (a.put o.dst (.slice (some ⟨g',0,none⟩) (k+1) gc')) w'):o.wp Tryz.prog a w K Q:=by
 obtain⟨i0,hi0,hz0,hz1,hz2⟩:=info_parts Tryz.infoInt;refine wp_append_lies w s x 25 ho base 2 i0 _ 1 8 Tryz.underlying25 hi0 hz0 hz1 hz2 rfl (by omega) _ k (eY f k) hs hown ⟨B,0,none⟩ 1 1 [.int .i64 (f k)] hx rfl ?_ ?_ (by omega) (by unfold maxLen;omega) (by omega) hbase w.heap.size rfl ?_
 ·intro j u hu
  match j,hu with
  | 0,hu=>simp at hu;subst hu;exact hB
  | j+1,hu=>simp at hu
 ·intro u hu
  simp at hu;subst hu;rfl
 ·intro g' gc' w' hown' hgrow hat _
  rw[sL (f k) (fun _ _=>rfl) rfl]at hown';exact h g' gc' w' hown' hgrow hat
end
end Go.Proofs.YtbabakgjkloabaaGreatDoor
