/-
  
-/
import Derived.Test.YtjnpndfpajjihacGreatGrTopMemory21
import Derived.Test.YtjnpndfpajjihacGreatXCheck
import Derived.Test.YtjnpndfpajjihacGreatGrTopMemory29
import Derived.Test.YtjnpndfpajjihacGreatEPure
import Derived.Test.YtjnpndfpajjihacGreatGrTopMemory38
import Derived.Test.YtjnpndfpajjihacGreatXFew
set_option maxRecDepth 100000
set_option maxHeartbeats 40000000
namespace Go.Proofs.YtjnpndfpajjihacGreat
open Go.RowKit
def z4d (n:Nat)(t:Tx):Prop:=t.info.length≤n∧t.rev.length≤20*n∧t.data=[]∧t.h0=⟨false,0⟩∧t.h1=⟨false,0⟩∧t.h2=⟨false,0⟩
theorem zvr {m:Mk}(h:goodM m=0):m.tags.length≤10∧m.blocks.length≤20:=by
 unfold goodM at h;split at h
 ·cases h
 ·split at h
  ·cases h
  ·split at h
   ·cases h
   ·rename_i h3
    split at h
    ·cases h
    ·rename_i h4
     constructor
     ·by_cases e:m.kind=2
      ·have:¬(m.tags.length<1∨10<m.tags.length):=fun x=>h4 (.inl ⟨e,x⟩)
       omega
      ·have:¬m.tags≠[]:=fun x=>h3 (.inr (.inl ⟨e,x⟩))
       simp only[ne_eq,Decidable.not_not] at this;rw[this];exact Nat.zero_le _
     ·by_cases e:m.kind=3
      ·have:¬(m.blocks.length<1∨20<m.blocks.length):=fun x=>h4 (.inr (.inl ⟨e,x⟩))
       omega
      ·have:¬m.blocks≠[]:=fun x=>h3 (.inr (.inr ⟨e,x⟩))
       simp only[ne_eq,Decidable.not_not] at this;rw[this];exact Nat.zero_le _
theorem zyn (log:List ByteArray)(seq:Int):∀(f i:Nat) (t:Tx) (n:Nat) (u:Tx),log.length - i≤f→i≤log.length→z4d i t→zex log seq i t=some (n,u)→z4d log.length u∧u.seq=t.seq:=by
 intro f
 induction f with
 |zero=>intro i t n u hf hi ht h;rw[zex,dif_neg (by omega)] at h;cases h
 |succ f ih=>
  intro i t n u hf hi ht h;rw[zex] at h;split at h
  ·split at h
   ·cases h
   ·rename_i h1
    split at h
    ·cases h
     obtain⟨a,b,c⟩:=ht;exact⟨⟨by omega,by omega,c⟩,rfl⟩
    ·split at h
     ·rename_i h3
      have he:(zaq (log.getD i ByteArray.empty)).2=0:=by
       by_cases hx:(zaq (log.getD i ByteArray.empty)).2=0
       ·exact hx
       ·exact absurd (.inl hx) h1
      have hm:=zvr (zkr he);have:=ih _ _ _ _ (by omega) h3 ?_ h
      ·exact⟨this.1,this.2⟩
      ·obtain⟨a,b,c⟩:=ht
       refine⟨?_,?_,c⟩
       ·show(t.info++copiesAt log (i+1) _).length≤_
        rw[List.length_append,zdo];omega
       ·show(t.rev++_).length≤_
        rw[List.length_append];omega
     ·cases h
  ·cases h
theorem znd (log:List ByteArray):∀(f pos:Nat) (seq:Int) (acc:List Tx),log.length - pos≤f→(∀t∈acc,z4d log.length t)→seq≤2147483647→(∀t∈(scanP log pos seq acc).1,z4d log.length t)∧seq+((scanP log pos seq acc).1.length:Int)≤2147483647+(acc.length:Int)∧(pos≤log.length→(scanP log pos seq acc).2≤log.length):=by
 intro f
 induction f with
 |zero=>
  intro pos seq acc hf ha hq;rw[scanP];split
  ·rw[zex,dif_neg (by omega)]
   exact⟨ha,by simp;omega,fun h=>h⟩
  ·exact⟨ha,by simp;omega,fun h=>h⟩
 |succ f ih=>
  intro pos seq acc hf ha hq;rw[scanP];split
  ·split
   ·exact⟨ha,by simp;omega,fun h=>h⟩
   ·rename_i h2 n t hr
    have hb:=zde log seq _ pos _ n t (Nat.le_refl _) hr;have ht:=(zyn log seq _ pos (zds seq) n t (Nat.le_refl _) (by omega) ⟨Nat.zero_le _,Nat.zero_le _,rfl,rfl,rfl,rfl⟩ hr).1
    have:=ih n (seq+1) (acc++[t]) (by omega) (fun x hx=>by
     rcases List.mem_append.1 hx with h|h
     ·exact ha x h
     ·rw[List.mem_singleton.1 h];exact ht) (by omega)
    refine⟨this.1,?_,fun _=>this.2.2 hb.2⟩;have h3:=this.2.1;rw[List.length_append,List.length_singleton] at h3
    push_cast at h3⊢
    omega
  ·exact⟨ha,by simp;omega,fun h=>h⟩
theorem zhc {d:Dk}(h:scanE d=0):za1 d=true∧(1≤(zao d).seq∧(zao d).seq≤2147483647)∧0≤(zao d).pos∧(zao d).pos≤23∧zaq (zal d 0)=(zao d,0)∧(zao d).kind=1:=by
 unfold scanE at h;split at h
 ·rename_i h1;exact absurd h h1
 ·rename_i h1
  split at h
  ·cases h
  ·rename_i h2
   have h3:(zaq (zal d 0)).2=0:=by
    by_cases hx:(zaq (zal d 0)).2=0
    ·exact hx
    ·exact absurd (.inl hx) h2
   have hk:(zao d).kind=1:=by
    by_cases hx:(zao d).kind=1
    ·exact hx
    ·exact absurd (.inr hx) h2
   have h4:=zkr h3
   have h5:readE d 0=0:=by
    by_cases hx:readE d 0=0
    ·exact hx
    ·exact absurd hx h1
   refine⟨?_,?_⟩
   ·unfold readE at h5
    split at h5
    ·rename_i hx;exact(Bool.and_eq_true_iff.1 hx).1
    ·cases h5
   ·have h6:goodM (zao d)=0:=h4
    unfold goodM at h4;split at h4
    ·cases h4
    ·split at h4
     ·cases h4
     ·rename_i hx
      have hy:¬((zao d).seq<1∨2147483647<(zao d).seq∨(zao d).pos<0∨23<(zao d).pos):=hx;refine⟨by omega,by omega,by omega,?_,hk⟩;exact Prod.ext rfl h3
theorem zpx {d:Dk}(h:scanE d=0):(∀t∈fndL d,z4d 24 t)∧(1≤fndN d∧fndN d≤2147483647)∧0≤fndP d∧fndP d≤23:=by
 obtain⟨_,⟨q1,q2⟩,p1,p2,_,_⟩:=zhc h;have:=znd (logOf d (zao d).pos) 24 0 (zao d).seq [] (by rw[za6];omega) (fun t ht=>by cases ht) q2;rw[za6] at this;rw[fndL,fndN,fndP,if_pos h,if_pos h,if_pos h];have h2:(zao d).seq+((zbv d).1.length:Int)≤2147483647:=by have:=this.2.1;simpa[zbv] using this
 exact⟨this.1,⟨by omega,h2⟩,by omega,by omega⟩
theorem zjz {l:List Tx}(h:∀t∈l,zba t=true)(b:Int):∀s,newestF l b=some s→za9 s=true:=by
 have key:∀(l:List Tx) (o:Option ByteArray),(∀t∈l,zba t=true)→(∀s,o=some s→za9 s=true)→∀s,l.foldl (zhr b) o=some s→za9 s=true:=by
  intro l
  induction l with
  |nil=>intro o _ ho s hs;exact ho s hs
  |cons t l ih=>
   intro o hg ho s hs;rw[List.foldl_cons] at hs;refine ih _ (fun x hx=>hg x (by simp[hx])) ?_ s hs;intro u hu;unfold zhr at hu;split at hu
   ·have hf:=((za7 t).1 (hg t (by simp))).2.1.1
    have:∀m:List (Int×ByteArray),zb4 m=true→zas b m=some u→za9 u=true:=by
     intro m
     induction m with
     |nil=>intro _ h;cases h
     |cons y m ih2=>
      intro hm hx;simp only[zb4,List.all_cons,Bool.and_eq_true] at hm;rw[zas] at hx;split at hx
      ·cases hx;exact hm.1
      ·exact ih2 hm.2 hx
    exact this _ hf hu
   ·split at hu
    ·cases hu
    ·exact ho u hu
 exact key l none h (fun s hs=>by cases hs)
theorem zof {f:Int→Option ByteArray}{n:Nat}{x:Int×ByteArray}(h:x∈asN f n):0≤x.1∧x.1<n∧f x.1=some x.2:=by
 induction n with
 |zero=>simp[asN] at h
 |succ n ih=>
  rw[zev] at h;rcases List.mem_append.1 h with h|h
  ·have:=ih h
   exact⟨this.1,by omega,this.2.2⟩
  ·unfold zt5 at h
   cases hf:f (n:Int) with
   |none=>rw[hf] at h;simp at h
   |some s=>rw[hf] at h;simp at h;subst h;exact⟨by simp,by simp;omega,hf⟩
theorem z1j {d:Dk}(h:scanE d=0)(hg:∀t∈fndL d,zba t=true):checkE (newestL (fndL d)) (fndP d) (fndN d)=0:=by
 obtain⟨_,⟨q1,q2⟩,p1,p2⟩:=zpx h
 have h1:goodM (zbo (fndP d) (fndN d))=0:=by
  unfold goodM zbo;rw[if_neg (by simp),if_neg (by simp;omega),if_neg (by simp),if_neg];rintro(h|h|h|h)
  ·have:=h.1;simp at this
  ·have:=h.1;simp at this
  ·revert h;simp[zbg,zaz]
  ·revert h;simp[zbg,zaz]
 rw[checkE,h1,if_neg (by simp),if_neg];intro hx;obtain⟨x,hx1,hx2⟩:=List.any_eq_true.1 hx;obtain⟨a,b,c⟩:=zof hx1;have hf:=zjz hg x.1 x.2 c;have hsz:x.2.size=32:=by have:=hf;simp[za9] at this;omega
 revert hx2
 simp[zgn,zam,hsz];omega
theorem zyo (n:Nat)(hn:n<37):∀(l:List St) (d:Dk),za1 d=true→(∀s∈l,s.1≠2→s.2.1≠(n:Int))→zal (runK d l) n=zal d n∧za1 (runK d l)=true:=by
 intro l
 induction l with
 |nil=>intro d hg _;exact⟨rfl,hg⟩
 |cons s l ih=>
  intro d hg hs
  have key:zal (zbf d s) n=zal d n∧za1 (zbf d s)=true:=by
   unfold zbf;by_cases hf:s.1=2
   ·rw[if_pos hf,zck,if_pos hg]
    exact⟨zm5 hg hn,zha hg⟩
   ·rw[if_neg hf]
    by_cases he:zh0 d s.2.1 s.2.2=0
    ·exact⟨(zvg he n).2 (fun e=>hs s (by simp) hf e.symm),zd1 he⟩
    ·rw[z3a he];exact⟨rfl,hg⟩
  have:=ih (zbf d s) key.2 (fun x hx=>hs x (by simp[hx]));exact⟨this.1.trans key.1,this.2⟩
structure Ac where
 kind:Int
 h:Int
 b:Int
 n:Int
 text:ByteArray
structure Rp where
 code:Int
 n:Int
 text:ByteArray
def zav (e:Int):Rp:=⟨e,0,⟨#[]⟩⟩
def vAc (a:Ac):Value:=.agg #[.int .i64 a.kind,.int .i64 a.h,.int .i64 a.b,.int .i64 a.n,.string a.text]
def vRp (r:Rp):Value:=.agg #[.int .i64 r.code,.int .i64 r.n,.string r.text]
def upd (f:Nat→Int)(b x:Int):Nat→Int:=fun k=>if(k:Int)=b then x else f k
def zmh (j:Jn)(t:Tx)(e:Int):Jn×Rp:=if e=0 then({j with now:=t},zav 0) else(j,zav e)
def zgs (j:Jn)(a:Ac):Jn×Rp:=
 if changeE j.now a.h a.b (fitT a.text)=0 then
  if j.role a.b.toNat=2 then(j,zav 8) else({j with role:=upd j.role a.b 1,now:=zaf j.now a.h a.b (fitT a.text)},zav 0)
 else(j,zav (changeE j.now a.h a.b (fitT a.text)))
def zjk (j:Jn)(a:Ac):Jn×Rp:=
 if fillE j.now a.h a.b (fitT a.text)=0 then
  if j.role a.b.toNat=1 then(j,zav 8) else if j.last<j.freed a.b.toNat then(j,zav 9)
  else({j with role:=upd j.role a.b 2,now:=zan j.now a.h a.b (fitT a.text)},zav 0)
 else(j,zav (fillE j.now a.h a.b (fitT a.text)))
def zem (j:Jn)(a:Ac):Jn×Rp:=
 if revokeE j.now a.h a.b=0 then
  if j.role a.b.toNat=0 then(j,zav 8)
  else({j with role:=upd j.role a.b 0,freed:=upd j.freed a.b (zag j.now a.h a.b).seq,now:=zag j.now a.h a.b},zav 0)
 else(j,zav (revokeE j.now a.h a.b))
def textJ (j:Jn)(b:Int):ByteArray×Int:=
 match zas b j.now.info with
 |some s=>(s,0)
 |none=>match zas b j.now.data with
  |some s=>(s,0)
  |none=>match zas b j.sealed.info with
   |some s=>(s,0)
   |none=>match zas b j.sealed.data with
    |some s=>(s,0)
    |none=>match zas b (newestL j.done) with
     |some s=>(s,0)
     |none=>(zal j.disk (25+b),readE j.disk (25+b))
def zjl (j:Jn)(b:Int):Rp:=
 if b<0∨11<b then zav 4
 else if(textJ j b).2=0 then⟨0,j.role b.toNat,(textJ j b).1⟩ else zav (textJ j b).2
def zez (t:Tx):Bool:=decide (t.info.length=0)&&decide (t.data.length=0)&&decide (t.rev.length=0)
def zcr (j:Jn):Jn×Rp:=
 if j.steps≠[]∨zhx j.now=true then(j,zav 9)
 else if zez j.now=true then(j,zav 4)
 else if 2147483645<j.now.seq then(j,zav 11)
 else if sealE j.rh j.ru j.now=0 then
  ({j with rh:=zch j.rh j.ru j.now,ru:=zcc j.rh j.ru j.now,sealed:=j.now,now:=zds (j.now.seq+1),work:=6,steps:=commitS j.rh j.ru j.now},⟨0,j.now.seq,⟨#[]⟩⟩)
 else(j,zav (sealE j.rh j.ru j.now))
def zdr (j:Jn)(work:Int)(l:List (Int×ByteArray))(p q:Int):Jn×Int:=
 if checkE l p q=0 then({j with work:=work,steps:=zbp l p q},0) else(j,checkE l p q)
def zgt (j:Jn):Jn×Rp:=
 if j.steps≠[] then(j,zav 9)
 else if j.done=[] then(j,zav 4)
 else((zdr j 7 (newestL j.done) j.rh (j.last+1)).1,zav (zdr j 7 (newestL j.done) j.rh (j.last+1)).2)
def zhd (j:Jn):Jn×Rp:=({j with sealed:=zds 0,done:=j.done++[j.sealed],last:=j.sealed.seq},⟨0,j.sealed.seq,⟨#[]⟩⟩)
def zc3:List Tx→Int→Int
 |[],_=>1
 |t::l,b=>if zbm t.rev b=true then 0 else if(zas b t.info).isSome=true then 1 else zc3 l b
def ze0 (d:Dk)(p q:Int):Jn:=⟨0,d,p,0,q - 1,false,fun _=>0,fun _=>0,zds q,zds 0,[],[],0,0,0,[]⟩
def zkx (j:Jn):Jn:={ze0 j.disk j.fP j.fN with acts:=j.acts,role:=fun k=>zc3 j.fL.reverse k}
def zb6 (j:Jn):Jn×Rp:=
 if j.work=6 then zhd j
 else if j.work=7 then({j with done:=[],ru:=0},zav 0)
 else if j.work=11 then(zkx j,zav 0)
 else(j,zav 0)
def ziz (j:Jn):Jn×Rp:=
 match j.steps with
 |[]=>(j,zav 4)
 |s::r=>
  if doneE j.disk s=0 then
   if r=[] then zb6 {j with disk:=zbf j.disk s,steps:=r} else({j with disk:=zbf j.disk s,steps:=r},zav 0)
  else(j,zav (doneE j.disk s))
def zi0 (j:Jn)(q:Int):Jn×Rp:=
 if crashE j.disk q=0 then(⟨j.acts,crashK j.disk q,0,0,j.last,true,fun _=>0,fun _=>0,zds 0,zds 0,[],[],0,0,0,[]⟩,zav 0)
 else(j,zav (crashE j.disk q))
def zb7 (j:Jn):Jn×Rp:=
 if j.down=false∨j.steps≠[] then(j,zav 9)
 else if scanE j.disk=0 then
  if checkE (newestL (fndL j.disk)) (fndP j.disk) (fndN j.disk)=0 then
   ({j with work:=11,steps:=zbp (newestL (fndL j.disk)) (fndP j.disk) (fndN j.disk),fL:=fndL j.disk,fN:=fndN j.disk,fP:=fndP j.disk},zav 0)
  else(j,zav (checkE (newestL (fndL j.disk)) (fndP j.disk) (fndN j.disk)))
 else(j,zav (scanE j.disk))
def za4 (j:Jn)(a:Ac):Jn×Rp:=
 if a.kind=1 then zmh j (zau j.now a.h a.n (24 - j.ru)) (zbb j.now a.h a.n (24 - j.ru))
 else if a.kind=5 then zmh j (zb3 j.now a.h) (zc4 j.now a.h)
 else if a.kind=2 then zgs j a
 else if a.kind=3 then zjk j a
 else if a.kind=4 then zem j a
 else if a.kind=6 then zcr j
 else if a.kind=7 then zgt j
 else(j,zjl j a.b)
def zkk (j:Jn)(a:Ac):Jn×Rp:=
 if a.kind<1∨11<a.kind then(j,zav 3)
 else if a.kind=8 then ziz j
 else if a.kind=10 then zi0 j a.n
 else if a.kind=11 then zb7 j
 else if j.down=true then(j,zav 10)
 else za4 j a
def doJ (j:Jn)(a:Ac):Jn×Rp:=if 400≤j.acts then(j,zav 11) else zkk {j with acts:=j.acts+1} a
def zxd:Jn:=ze0 ⟨encT (zbo 0 1)::List.replicate 36 (fitT ⟨#[]⟩),[]⟩ 0 1
inductive Move (j:Jn)(a:Ac):Jn→Rp→Prop
 |no (e:Int) (he:e≠0):Move j a j (zav e)
 |read (hd:j.down=false) (hk:a.kind=9) (hb:0≤a.b∧a.b≤11) (ht:(textJ j a.b).2=0):Move j a j ⟨0,j.role a.b.toNat,(textJ j a.b).1⟩
 |begin (hd:j.down=false) (hk:a.kind=1) (he:zbb j.now a.h a.n (24 - j.ru)=0):Move j a {j with now:=zau j.now a.h a.n (24 - j.ru)} (zav 0)
 |stop (hd:j.down=false) (hk:a.kind=5) (he:zc4 j.now a.h=0):Move j a {j with now:=zb3 j.now a.h} (zav 0)
 |write (hd:j.down=false) (hk:a.kind=2) (he:changeE j.now a.h a.b (fitT a.text)=0) (hr:j.role a.b.toNat≠2):Move j a {j with role:=upd j.role a.b 1,now:=zaf j.now a.h a.b (fitT a.text)} (zav 0)
 |fill (hd:j.down=false) (hk:a.kind=3) (he:fillE j.now a.h a.b (fitT a.text)=0) (hr:j.role a.b.toNat≠1) (hf:j.freed a.b.toNat≤j.last):Move j a {j with role:=upd j.role a.b 2,now:=zan j.now a.h a.b (fitT a.text)} (zav 0)
 |revoke (hd:j.down=false) (hk:a.kind=4) (he:revokeE j.now a.h a.b=0) (hr:j.role a.b.toNat≠0):Move j a {j with role:=upd j.role a.b 0,freed:=upd j.freed a.b (zag j.now a.h a.b).seq,now:=zag j.now a.h a.b} (zav 0)
 |commit (hd:j.down=false) (hk:a.kind=6) (hs:j.steps=[]) (ho:zhx j.now=false) (hm:zez j.now=false) (hq:j.now.seq≤2147483645) (he:sealE j.rh j.ru j.now=0):
   Move j a {j with rh:=zch j.rh j.ru j.now,ru:=zcc j.rh j.ru j.now,sealed:=j.now,now:=zds (j.now.seq+1),work:=6,steps:=commitS j.rh j.ru j.now} ⟨0,j.now.seq,⟨#[]⟩⟩
 |check (hd:j.down=false) (hk:a.kind=7) (hs:j.steps=[]) (hn:j.done≠[]) (he:checkE (newestL j.done) j.rh (j.last+1)=0):
   Move j a {j with work:=7,steps:=zbp (newestL j.done) j.rh (j.last+1)} (zav 0)
 |step (hk:a.kind=8) (s:St) (r:List St) (hs:j.steps=s::r) (he:doneE j.disk s=0) (hr:r≠[]):Move j a {j with disk:=zbf j.disk s,steps:=r} (zav 0)
 |last (hk:a.kind=8) (s:St) (hs:j.steps=[s]) (he:doneE j.disk s=0):Move j a (zb6 {j with disk:=zbf j.disk s,steps:=[]}).1 (zb6 {j with disk:=zbf j.disk s,steps:=[]}).2
 |crash (hk:a.kind=10) (he:crashE j.disk a.n=0):Move j a ⟨j.acts,crashK j.disk a.n,0,0,j.last,true,fun _=>0,fun _=>0,zds 0,zds 0,[],[],0,0,0,[]⟩ (zav 0)
 |back (hk:a.kind=11) (hd:j.down=true) (hs:j.steps=[]) (hE:scanE j.disk=0) (hc:checkE (newestL (fndL j.disk)) (fndP j.disk) (fndN j.disk)=0):
   Move j a {j with work:=11,steps:=zbp (newestL (fndL j.disk)) (fndP j.disk) (fndN j.disk),fL:=fndL j.disk,fN:=fndN j.disk,fP:=fndP j.disk} (zav 0)
theorem zuf {j:Jn}{a:Ac}{t:Tx}{e:Int}(h:e=0→Move j a {j with now:=t} (zav 0)):Move j a (zmh j t e).1 (zmh j t e).2:=by
 rw[zmh];split
 ·rename_i he;exact h he
 ·rename_i he;exact .no _ he
theorem zqb {j:Jn}{a:Ac}(hd:j.down=false)(h1:1≤a.kind)(h2:a.kind≤11)(h8:a.kind≠8)(h10:a.kind≠10)(h11:a.kind≠11):Move j a (za4 j a).1 (za4 j a).2:=by
 rw[za4];split
 ·rename_i hk;exact zuf fun he=>.begin hd hk he
 split
 ·rename_i hk;exact zuf fun he=>.stop hd hk he
 split
 ·rename_i hk
  rw[zgs];split
  ·rename_i he
   split
   ·exact .no _ (by decide)
   ·rename_i hr;exact .write hd hk he hr
  ·rename_i he;exact .no _ he
 split
 ·rename_i hk
  rw[zjk];split
  ·rename_i he
   split
   ·exact .no _ (by decide)
   ·rename_i hr
    split
    ·exact .no _ (by decide)
    ·rename_i hf;exact .fill hd hk he hr (by omega)
  ·rename_i he;exact .no _ he
 split
 ·rename_i hk
  rw[zem];split
  ·rename_i he
   split
   ·exact .no _ (by decide)
   ·rename_i hr;exact .revoke hd hk he hr
  ·rename_i he;exact .no _ he
 split
 ·rename_i hk
  rw[zcr];split
  ·exact .no _ (by decide)
  ·rename_i hb
   simp only[not_or,ne_eq,Decidable.not_not,Bool.not_eq_true] at hb;split
   ·exact .no _ (by decide)
   ·rename_i hm
    split
    ·exact .no _ (by decide)
    ·rename_i hq
     split
     ·rename_i he;exact .commit hd hk hb.1 hb.2 (by simpa using hm) (by omega) he
     ·rename_i he;exact .no _ he
 split
 ·rename_i hk
  rw[zgt];split
  ·exact .no _ (by decide)
  ·rename_i hs
   split
   ·exact .no _ (by decide)
   ·rename_i hn
    by_cases he:checkE (newestL j.done) j.rh (j.last+1)=0
    ·rw[zdr,if_pos he]
     exact .check hd hk (by simpa using hs) hn he
    ·rw[zdr,if_neg he]
     exact .no _ he
 ·rename_i k1 k5 k2 k3 k4 k6 k7
  have hk:a.kind=9:=by omega
  rw[zjl];split
  ·exact .no _ (by decide)
  ·rename_i hb
   split
   ·rename_i ht;exact .read hd hk (by omega) ht
   ·rename_i ht;exact .no _ ht
theorem zyu (j:Jn)(a:Ac):Move j a (zkk j a).1 (zkk j a).2:=by
 rw[zkk];split
 ·exact .no _ (by decide)
 rename_i hr;split
 ·rename_i hk
  unfold ziz
  cases hs:j.steps with
  |nil=>exact .no _ (by decide)
  |cons s r=>
   by_cases he:doneE j.disk s=0
   ·by_cases hr:r=[]
    ·subst hr
     simp only[he,if_true];exact .last hk s hs he
    ·simp only[he,if_true,hr,if_false]
     exact .step hk s r hs he hr
   ·simp only[he,if_false]
    exact .no _ he
 split
 ·rename_i hk
  rw[zi0];split
  ·rename_i he;exact .crash hk he
  ·rename_i he;exact .no _ he
 split
 ·rename_i hk
  rw[zb7];split
  ·exact .no _ (by decide)
  ·rename_i hb
   simp only[not_or,ne_eq,Decidable.not_not,Bool.not_eq_false] at hb;split
   ·rename_i hE
    split
    ·rename_i hc;exact .back hk hb.1 hb.2 hE hc
    ·rename_i hc;exact .no _ hc
   ·rename_i hE;exact .no _ hE
 split
 ·exact .no _ (by decide)
 ·rename_i k8 k10 k11 hd
  exact zqb (by simpa using hd) (by omega) (by omega) k8 k10 k11
def Only (d:Dk)(n:Nat)(v:ByteArray):Prop:=∀s∈ways d n,s=v
theorem zqe (l:List ByteArray)(n:Nat):ways ⟨l,[]⟩ n=[l.getD n ByteArray.empty]:=rfl
theorem zom {d:Dk}{m:Int}{t:ByteArray}(h:zh0 d m t=0)(n:Nat):ways (zg6 d m t) n=if m=(n:Int) then ways d n++[t] else ways d n:=by
 rw[zek h,ways,ways];show d.safe.getD n ByteArray.empty::zcg n (d.wr++[(m,t)])=_;rw[zgl];by_cases e:m=(n:Int)
 ·rw[if_pos e,if_pos e];rfl
 ·rw[if_neg e,if_neg e]
theorem zqf {d:Dk}(n:Nat):zce d n∈ways d n:=by
 have:∀(l:List (Int×ByteArray)) (z:ByteArray),zd4 n z l∈z::zcg n l:=by
  intro l
  induction l with
  |nil=>intro z;simp[zd4]
  |cons x l ih=>
   intro z;rw[zd4,zcg];by_cases e:x.1=(n:Int)
   ·rw[if_pos e,if_pos e]
    exact List.mem_cons_of_mem _ (ih x.2)
   ·rw[if_neg e,if_neg e]
    exact ih z
 have h:=this d.wr (d.safe.getD n ByteArray.empty);rw[zce,Int.toNat_natCast];exact h
theorem Only.last {d:Dk}{n:Nat}{v:ByteArray}(h:Only d n v):zce d n=v:=h _ (zqf n)
theorem Only.read {d:Dk}{n:Nat}{v:ByteArray}(h:Only d n v)(hg:za1 d=true)(hn:n<37):zal d n=v:=by
 rw[zal,hg,zhb hn];exact h.last
theorem zlj {l:List ByteArray}(hg:za1 ⟨l,[]⟩=true){n:Nat}(hn:n<37):Only ⟨l,[]⟩ n (zal ⟨l,[]⟩ n):=by
 intro s hs;rw[zqe] at hs;rw[zgm hg hn]
 simpa using hs
theorem zdh {d:Dk}(hg:za1 d=true){n:Nat}(hn:n<37):Only (zck d) n (zal d n):=by
 rw[zck,if_pos hg,←zm5 hg hn];exact zlj (zha hg) hn
theorem zd9 {d:Dk}{m:Int}{t:ByteArray}(hg:za1 d=true)(hp:zbx m=true)(hf:za9 t=true)(hl:d.wr.length<200):zh0 d m t=0:=by
 rw[zh0,hg,hp,hf];simp;omega
theorem zon {d:Dk}(hg:za1 d=true):(zck d).wr=[]:=by rw[zck,if_pos hg]
theorem zui {d:Dk}(hg:za1 d=true):za1 (zck d)=true:=by rw[zck,if_pos hg];exact zha hg
def zdt (s:St):Prop:=s.1=2∨(zbx s.2.1=true∧za9 s.2.2=true)
theorem zgu {d:Dk}{s:St}(hs:zdt s)(hg:za1 d=true)(hl:d.wr.length<200):za1 (zbf d s)=true∧(zbf d s).wr.length≤d.wr.length+1:=by
 unfold zbf;by_cases h2:s.1=2
 ·rw[if_pos h2]
  exact⟨zui hg,by rw[zon hg];simp⟩
 ·rw[if_neg h2]
  obtain⟨hp,hf⟩:=hs.resolve_left h2;have he:=zd9 hg hp hf hl;refine⟨zd1 he,?_⟩;rw[zek he];simp
theorem zi1 {d:Dk}{s:St}(hs:zdt s)(hg:za1 d=true)(hl:d.wr.length<200){n:Nat}(hn:n<37){v:ByteArray}(hv:Only d n v)(hne:s.1≠2→s.2.1≠(n:Int)):Only (zbf d s) n v:=by
 unfold zbf;by_cases h2:s.1=2
 ·rw[if_pos h2]
  have:=zdh hg hn
  rwa [hv.read hg hn] at this
 ·rw[if_neg h2]
  obtain⟨hp,hf⟩:=hs.resolve_left h2;intro x hx;rw[zom (zd9 hg hp hf hl),if_neg (hne h2)] at hx;exact hv x hx
theorem zcn:∀(l:List St) (d:Dk),(∀s∈l,zdt s)→za1 d=true→d.wr.length+l.length≤200→za1 (runK d l)=true∧(runK d l).wr.length≤d.wr.length+l.length:=by
 intro l
 induction l with
 |nil=>intro d _ hg _;exact⟨hg,by simp[runK]⟩
 |cons s l ih=>
  intro d hs hg hl;simp only[List.length_cons] at hl;have h1:=zgu (hs s (by simp)) hg (by omega);have h2:=ih (zbf d s) (fun x hx=>hs x (by simp[hx])) h1.1 (by omega);refine⟨h2.1,?_⟩;have:=h2.2;simp only[List.length_cons];show(runK (zbf d s) l).wr.length≤_;omega
theorem zhe {n:Nat}(hn:n<37){v:ByteArray}:∀(l:List St) (d:Dk),(∀s∈l,zdt s)→za1 d=true→d.wr.length+l.length≤200→Only d n v→(∀s∈l,s.1≠2→s.2.1≠(n:Int))→Only (runK d l) n v:=by
 intro l
 induction l with
 |nil=>intro d _ _ _ hv _;exact hv
 |cons s l ih=>
  intro d hs hg hl hv hne;simp only[List.length_cons] at hl;have h1:=zgu (hs s (by simp)) hg (by omega);exact ih (zbf d s) (fun x hx=>hs x (by simp[hx])) h1.1 (by omega) (zi1 (hs s (by simp)) hg (by omega) hn hv (hne s (by simp))) (fun x hx=>hne x (by simp[hx]))
theorem zca (d:Dk)(l r:List St):runK d (l++r)=runK (runK d l) r:=List.foldl_append
def zoo (cs:List (Int×ByteArray)):Prop:=(cs.map (·.1)).Nodup∧(∀x∈cs,0≤x.1∧x.1≤11∧za9 x.2=true)∧cs.length≤12
theorem zd0 {cs:List (Int×ByteArray)}(h:∀x∈cs,0≤x.1∧x.1≤11∧za9 x.2=true):(∀s∈homeS cs,zdt s)∧∀n:Nat,n<25→∀s∈homeS cs,s.1≠2→s.2.1≠(n:Int):=by
 have key:∀s∈homeS cs,(∃x∈cs,s=zbh (25+x.1) x.2)∨s=zby:=by
  intro s hs;rw[homeS] at hs;rcases List.mem_append.1 hs with h2|h2
  ·obtain⟨x,hx,rfl⟩:=List.mem_map.1 h2
   exact .inl ⟨x,hx,rfl⟩
  ·split at h2
   ·cases h2
   ·exact .inr (List.mem_singleton.1 h2)
 refine⟨fun s hs=>?_,fun n hn s hs hk=>?_⟩
 ·rcases key s hs with⟨x,hx,rfl⟩|rfl
  ·have:=h x hx
   refine .inr ⟨?_,this.2.2⟩;show zbx (25+x.1)=true;simp[zbx];omega
  ·exact .inl rfl
 ·rcases key s hs with⟨x,hx,rfl⟩|rfl
  ·have:=h x hx
   show(25:Int)+x.1≠_;omega
  ·exact absurd rfl hk
theorem zvz:∀(cs:List (Int×ByteArray)) (d:Dk),zoo cs→za1 d=true→d.wr.length+cs.length≤200→∀x∈cs,zce (runK d (homeM cs)) (25+x.1)=x.2:=by
 intro cs
 induction cs with
 |nil=>intro d _ _ _ x hx;cases hx
 |cons c cs ih=>
  intro d hH hg hl x hx;obtain⟨hnd,hb,hlen⟩:=hH;have hc:=hb c (by simp);have hnd2:=List.nodup_cons.1 hnd;simp only[List.length_cons] at hl hlen;have hok:zdt (zbh (25+c.1) c.2):=.inr ⟨show zbx (25+c.1)=true by simp[zbx];omega,hc.2.2⟩;have h1:=zgu hok hg (by omega);have e:homeM (c::cs)=zbh (25+c.1) c.2::homeM cs:=rfl;rw[e];show zce (runK (zbf d (zbh (25+c.1) c.2)) (homeM cs)) (25+x.1)=x.2;rcases List.mem_cons.1 hx with rfl|hx2
  ·
   have hst:zbf d (zbh (25+x.1) x.2)=zg6 d (25+x.1) x.2:=rfl;have he:zh0 d (25+x.1) x.2=0:=zd9 hg (by simp[zbx];omega) hc.2.2 (by omega)
   have key:∀(l:List (Int×ByteArray)) (D:Dk),(∀y∈l,0≤y.1∧y.1≤11∧za9 y.2=true)→(∀y∈l,y.1≠x.1)→za1 D=true→D.wr.length+l.length≤200→zce (runK D (homeM l)) (25+x.1)=zce D (25+x.1):=by
    intro l
    induction l with
    |nil=>intro D _ _ _ _;rfl
    |cons y l ih2=>
     intro D hb2 hne hgD hlD;simp only[List.length_cons] at hlD;have hy:=hb2 y (by simp);have he2:zh0 D (25+y.1) y.2=0:=zd9 hgD (by simp[zbx];omega) hy.2.2 (by omega);have e2:homeM (y::l)=zbh (25+y.1) y.2::homeM l:=rfl;rw[e2];show zce (runK (zg6 D (25+y.1) y.2) (homeM l)) (25+x.1)=_;have hg2:=zd1 he2;rw[ih2 _ (fun z hz=>hb2 z (by simp[hz])) (fun z hz=>hne z (by simp[hz])) hg2 (by rw[zek he2];simp;omega),zek he2,zks,if_neg];have:=hne y (by simp);omega
   rw[hst,key cs _ (fun y hy=>hb y (by simp[hy])) (fun y hy e=>hnd2.1 (List.mem_map.2 ⟨y,hy,e⟩)) (zd1 he) (by rw[zek he];simp;omega),zek he,zks,if_pos rfl]
  ·exact ih _ ⟨hnd2.2,fun y hy=>hb y (by simp[hy]),by omega⟩ h1.1 (by omega) x hx2
theorem zfh {d:Dk}(hg:za1 d=true){n:Nat}(hn:n<37):readE d n=0:=by
 rw[readE,hg,zhb hn];rfl
theorem zsq {X D:Dk}(h:∀n:Nat,1≤n→n≤24→zal X n=zal D n)(p:Int):logOf X p=logOf D p:=by
 unfold logOf;refine List.map_congr_left fun i hi=>?_;have h1:=h (1+((p+(i:Int))%24).toNat) (by omega) (by omega);have e:((1+((p+(i:Int))%24).toNat:Nat):Int)=1+(p+(i:Int))%24:=by omega
 rw[e] at h1;exact h1
theorem zv0 {X D:Dk}(hX:za1 X=true)(hD:za1 D=true)(h:∀n:Nat,n≤24→zal X n=zal D n):scanE X=scanE D∧fndL X=fndL D∧fndN X=fndN D∧fndP X=fndP D:=by
 have h0:zal X 0=zal D 0:=h 0 (by omega);have hs:zao X=zao D:=by rw[zao,zao,h0]
 have hE:scanE X=scanE D:=by
  have e1:readE X 0=0:=zfh hX (n:=0) (by omega);have e2:readE D 0=0:=zfh hD (n:=0) (by omega);rw[scanE,scanE,hs,h0,e1,e2]
 have hL:zbv X=zbv D:=by rw[zbv,zbv,hs,zsq (fun n _ h2=>h n h2)]
 refine⟨hE,?_,?_,?_⟩
 ·rw[fndL,fndL,hE,hL]
 ·rw[fndN,fndN,hE,hs,hL]
 ·rw[fndP,fndP,hE,hs,hL]
theorem zsr {p seq:Int}(h:goodM (zbo p seq)=0):(1≤seq∧seq≤2147483647)∧0≤p∧p≤23:=by
 unfold goodM at h;split at h
 ·cases h
 ·split at h
  ·cases h
  ·rename_i hx
   have:¬(seq<1∨2147483647<seq∨p<0∨23<p):=hx;omega
theorem zy1 (f:Int→Option ByteArray)(n:Nat):((asN f n).map (·.1)).Nodup:=by
 induction n with
 |zero=>simp[asN]
 |succ n ih=>
  rw[zev,List.map_append,List.nodup_append];refine⟨ih,?_,?_⟩
  ·unfold zt5;cases f n<;>simp
  ·intro a ha b hb
   obtain⟨x,hx,rfl⟩:=List.mem_map.1 ha;obtain⟨y,hy,rfl⟩:=List.mem_map.1 hb;have h1:=(zof hx).2.1;unfold zt5 at hy
   cases hf:f (n:Int) with
   |none=>rw[hf] at hy;simp at hy
   |some s=>rw[hf] at hy;simp at hy;subst hy;simp;omega
theorem ze2 {l:List Tx}(hg:∀t∈l,zba t=true):zoo (newestL l):=by
 refine⟨zy1 _ _,fun x hx=>?_,zeb _ 12⟩;obtain⟨a,b,c⟩:=zof hx;exact⟨a,by omega,zjz hg _ _ c⟩
def putR (cs:List (Int×ByteArray))(S:ByteArray):List St:=homeS cs++[zbh 0 S,zby]
section
variable {cs:List (Int×ByteArray)} {S:ByteArray} {d:Dk}
theorem zen (h:zoo cs):(homeS cs).length≤13:=by
 rw[homeS,List.length_append,zcf];have:=h.2.2;split<;>simp<;>omega
theorem zlk (h:zoo cs)(hS:za9 S=true):∀s∈putR cs S,zdt s:=by
 intro s hs;rcases List.mem_append.1 hs with h1|h1
 ·exact(zd0 h.2.1).1 s h1
 ·rcases List.mem_cons.1 h1 with rfl|h2
  ·exact .inr ⟨rfl,hS⟩
  ·rw[List.mem_singleton.1 h2];exact .inl rfl
theorem zgv (h:zoo cs)(hg:za1 d=true)(hw:d.wr=[])(ho:∀n:Nat,n<25→Only d n (zal d n)):za1 (runK d (homeS cs))=true∧(runK d (homeS cs)).wr.length≤13∧(∀n:Nat,n<25→Only (runK d (homeS cs)) n (zal d n))∧∀x∈cs,Only (runK d (homeS cs)) (25+x.1).toNat x.2:=by
 have hl:=zen h;have h1:=zd0 h.2.1;have h2:=zcn (homeS cs) d h1.1 hg (by rw[hw];simp;omega);refine⟨h2.1,by have:=h2.2;rw[hw] at this;simp at this;omega,fun n hn=>zhe (by omega) _ d h1.1 hg (by rw[hw];simp;omega) (ho n hn) (h1.2 n hn),fun x hx=>?_⟩;have hne:¬cs.length=0:=by intro e;rw[List.eq_nil_of_length_eq_zero e] at hx;cases hx
 have hxb:=h.2.1 x hx;have hok:∀s∈homeM cs,zdt s:=fun s hs=>h1.1 s (by rw[homeS];exact List.mem_append.2 (.inl hs));have hlm:(homeM cs).length≤12:=by rw[zcf];exact h.2.2
 have h3:=zcn (homeM cs) d hok hg (by rw[hw];simp;omega);rw[homeS,if_neg hne,zca];show Only (zck (runK d (homeM cs))) _ _;have h4:=zdh h3.1 (n:=(25+x.1).toNat) (by omega);have e:(((25+x.1).toNat:Nat):Int)=25+x.1:=by omega
 have h5:=zvz cs d h hg (by rw[hw];have:=h.2.2;simp;omega) x hx
 have h6:zal (runK d (homeM cs)) ((25+x.1).toNat:Nat)=x.2:=by
  rw[zal,h3.1,zhb (by omega),e];exact h5
 rwa [h6] at h4
theorem zv1 (h:zoo cs)(hS:za9 S=true)(hg:za1 d=true)(hw:d.wr=[])(ho:∀n:Nat,n<25→Only d n (zal d n)):za1 (runK d (putR cs S))=true∧Only (runK d (putR cs S)) 0 S∧(∀n:Nat,1≤n→n<25→Only (runK d (putR cs S)) n (zal d n))∧∀x∈cs,Only (runK d (putR cs S)) (25+x.1).toNat x.2:=by
 obtain⟨a1,a2,a3,a4⟩:=zgv h hg hw ho;have he:zh0 (runK d (homeS cs)) 0 S=0:=zd9 a1 rfl hS (by omega);have hg2:=zd1 he;have hl2:(zg6 (runK d (homeS cs)) 0 S).wr.length<200:=by rw[zek he];simp;omega
 have hr:runK d (putR cs S)=zck (zg6 (runK d (homeS cs)) 0 S):=by rw[putR,zca];rfl
 have hok:zdt (zbh 0 S):=.inr ⟨rfl,hS⟩
 have keep:∀(n:Nat) (v:ByteArray),n<37→n≠0→Only (runK d (homeS cs)) n v→Only (runK d (putR cs S)) n v:=by
  intro n v hn hne hv;rw[hr];have h1:Only (zg6 (runK d (homeS cs)) 0 S) n v:=zi1 hok a1 (by omega) hn hv (fun _=>by show(0:Int)≠_;omega);have h2:=zdh hg2 hn
  rwa [h1.read hg2 hn] at h2
 refine⟨by rw[hr];exact zui hg2,?_,fun n h1 h2=>keep n _ (by omega) (by omega) (a3 n h2),fun x hx=>?_⟩
 ·rw[hr]
  have h2:=zdh hg2 (n:=0) (by omega);have h3:=(zod he).1;have h4:zal (zg6 (runK d (homeS cs)) 0 S) ((0:Nat):Int)=S:=h3
  rwa [h4] at h2
 ·have:=h.2.1 x hx
  exact keep _ _ (by omega) (by omega) (a4 x hx)
theorem zss (h:zoo cs)(hS:za9 S=true)(hg:za1 d=true)(hw:d.wr=[])(ho:∀n:Nat,n<25→Only d n (zal d n))(k:Nat):za1 (runK d ((putR cs S).take k))=true∧(∀n:Nat,1≤n→n<25→Only (runK d ((putR cs S).take k)) n (zal d n))∧
  ((k<(putR cs S).length∧Only (runK d ((putR cs S).take k)) 0 (zal d 0))∨((∀s∈ways (runK d ((putR cs S).take k)) 0,(k<(putR cs S).length∧s=zal d 0)∨s=S)∧∀x∈cs,Only (runK d ((putR cs S).take k)) (25+x.1).toNat x.2)):=by
 have hl:=zen h;have hlen:(putR cs S).length=(homeS cs).length+2:=by simp[putR]
 by_cases h1:k≤(homeS cs).length
 ·have e:(putR cs S).take k=(homeS cs).take k:=by rw[putR,List.take_append_of_le_length h1]
  have hst:=zd0 h.2.1;have hok:∀s∈(homeS cs).take k,zdt s:=fun s hs=>hst.1 s (List.mem_of_mem_take hs);have hlk:d.wr.length+((homeS cs).take k).length≤200:=by rw[hw,List.length_take];simp;omega
  rw[e];have key:∀n:Nat,n<25→Only (runK d ((homeS cs).take k)) n (zal d n):=fun n hn=>zhe (by omega) _ d hok hg hlk (ho n hn) (fun s hs=>hst.2 n hn s (List.mem_of_mem_take hs));exact⟨(zcn _ d hok hg hlk).1,fun n _ h2=>key n h2,.inl ⟨by omega,key 0 (by omega)⟩⟩
 ·obtain⟨a1,a2,a3,a4⟩:=zgv h hg hw ho
  by_cases h2:k=(homeS cs).length+1
  ·have e:(putR cs S).take k=homeS cs++[zbh 0 S]:=by
    rw[putR,List.take_append,List.take_of_length_le (by omega),h2,show(homeS cs).length+1 - (homeS cs).length=1 from by omega];rfl
   have he:zh0 (runK d (homeS cs)) 0 S=0:=zd9 a1 rfl hS (by omega);have hr:runK d ((putR cs S).take k)=zg6 (runK d (homeS cs)) 0 S:=by rw[e,zca];rfl
   have hok:zdt (zbh 0 S):=.inr ⟨rfl,hS⟩
   have keep:∀(n:Nat) (v:ByteArray),n<37→n≠0→Only (runK d (homeS cs)) n v→Only (runK d ((putR cs S).take k)) n v:=by
    intro n v hn hne hv;rw[hr];exact zi1 hok a1 (by omega) hn hv (fun _=>by show(0:Int)≠_;omega)
   refine⟨by rw[hr];exact zd1 he,fun n h3 h4=>keep n _ (by omega) (by omega) (a3 n h4),.inr ⟨fun s hs=>?_,fun x hx=>?_⟩⟩
   ·rw[hr,zom he,if_pos (show(0:Int)=((0:Nat):Int) from rfl)] at hs
    rcases List.mem_append.1 hs with h5|h5
    ·exact .inl ⟨by omega,a3 0 (by omega) s h5⟩
    ·exact .inr (List.mem_singleton.1 h5)
   ·have:=h.2.1 x hx
    exact keep _ _ (by omega) (by omega) (a4 x hx)
  ·have e:(putR cs S).take k=putR cs S:=List.take_of_length_le (by omega)
   rw[e];obtain⟨b1,b2,b3,b4⟩:=zv1 h hS hg hw ho;exact⟨b1,b3,.inr ⟨fun s hs=>.inr (b2 s hs),b4⟩⟩
end
def zst (d:Dk)(n:Nat)(S:ByteArray→Prop):Prop:=∀s∈ways d n,S s
theorem znf {d:Dk}{s:St}(hs:zdt s)(hg:za1 d=true)(hl:d.wr.length<200){n:Nat}(hn:n<37){S:ByteArray→Prop}(hv:zst d n S)(hne:s.1≠2→s.2.1=(n:Int)→S s.2.2):zst (zbf d s) n S:=by
 unfold zbf;by_cases h2:s.1=2
 ·rw[if_pos h2]
  intro x hx;rw[zdh hg hn x hx,zal,hg,zhb hn];exact hv _ (zqf n)
 ·rw[if_neg h2]
  obtain⟨hp,hf⟩:=hs.resolve_left h2;intro x hx;rw[zom (zd9 hg hp hf hl)] at hx;split at hx
  ·rename_i e
   rcases List.mem_append.1 hx with h|h
   ·exact hv x h
   ·rw[List.mem_singleton.1 h];exact hne h2 e
  ·exact hv x hx
theorem zll {n:Nat}(hn:n<37){S:ByteArray→Prop}:∀(l:List St) (d:Dk),(∀s∈l,zdt s)→za1 d=true→d.wr.length+l.length≤200→zst d n S→(∀s∈l,s.1≠2→s.2.1=(n:Int)→S s.2.2)→zst (runK d l) n S:=by
 intro l
 induction l with
 |nil=>intro d _ _ _ hv _;exact hv
 |cons s l ih=>
  intro d hs hg hl hv hne;simp only[List.length_cons] at hl;have h1:=zgu (hs s (by simp)) hg (by omega);exact ih (zbf d s) (fun x hx=>hs x (by simp[hx])) h1.1 (by omega) (znf (hs s (by simp)) hg (by omega) hn hv (hne s (by simp))) (fun x hx=>hne x (by simp[hx]))
theorem zmi {log log':List ByteArray}(l:List (Int×Bool)):∀(i:Nat),(∀j,i≤j→j<i+l.length→log.getD j ByteArray.empty=log'.getD j ByteArray.empty)→copiesAt log i l=copiesAt log' i l:=by
 induction l with
 |nil=>intro i _;rfl
 |cons x r ih=>
  intro i h;rw[copiesAt,copiesAt,h i (Nat.le_refl _) (by simp),ih (i+1) (fun j h1 h2=>h j (by omega) (by simp only[List.length_cons];omega))]
theorem zv2 {log log':List ByteArray}(hl:log.length=log'.length){m:Nat}(hm:∀i,i<m→log.getD i ByteArray.empty=log'.getD i ByteArray.empty)(seq:Int):∀(f i:Nat) (t:Tx) (n:Nat) (u:Tx),log.length - i≤f→zex log seq i t=some (n,u)→n≤m→zex log' seq i t=some (n,u):=by
 intro f
 induction f with
 |zero=>intro i t n u hf h _;rw[zex,dif_neg (by omega)] at h;cases h
 |succ f ih=>
  intro i t n u hf h hn;have hb:=zde log seq _ i t n u (Nat.le_refl _) h;have e:=hm i (by omega);rw[zex] at h⊢;split at h
  ·rename_i h1
   rw[dif_pos (by omega),←e];split at h
   ·cases h
   ·rename_i h2
    rw[if_neg h2];split at h
    ·rename_i h3
     rw[if_pos h3];exact h
    ·rename_i h3
     rw[if_neg h3];split at h
     ·rename_i h4
      rw[if_pos (by omega)];have hb2:=zde log seq _ _ _ n u (Nat.le_refl _) h;have hc:=zmi (log:=log) (log':=log') (zaq (log.getD i ByteArray.empty)).1.tags (i+1) (fun j _ h6=>hm j (by omega));have:=ih _ _ n u (by omega) h hn;unfold more at this⊢;rw[hc] at this;exact this
     ·cases h
  ·cases h
theorem zuj (log:List ByteArray):∀(f pos:Nat) (seq:Int) (acc:List Tx),log.length - pos≤f→pos≤(scanP log pos seq acc).2∧acc.length≤(scanP log pos seq acc).1.length:=by
 intro f
 induction f with
 |zero=>
  intro pos seq acc hf;rw[scanP];split
  ·rw[zex,dif_neg (by omega)];exact⟨Nat.le_refl _,Nat.le_refl _⟩
  ·exact⟨Nat.le_refl _,Nat.le_refl _⟩
 |succ f ih=>
  intro pos seq acc hf;rw[scanP];split
  ·split
   ·exact⟨Nat.le_refl _,Nat.le_refl _⟩
   ·rename_i n t hr
    have hb:=zde log seq _ pos _ n t (Nat.le_refl _) hr;have:=ih n (seq+1) (acc++[t]) (by omega);rw[List.length_append,List.length_singleton] at this;omega
  ·exact⟨Nat.le_refl _,Nat.le_refl _⟩
theorem zsu {log log':List ByteArray}(hl:log.length=log'.length):∀(f pos:Nat) (seq:Int) (acc:List Tx),log.length - pos≤f→(∀i,i<(scanP log pos seq acc).2→log.getD i ByteArray.empty=log'.getD i ByteArray.empty)→
  scanP log' pos seq acc=scanP log' (scanP log pos seq acc).2 (seq+((scanP log pos seq acc).1.length:Int) - (acc.length:Int)) (scanP log pos seq acc).1:=by
 intro f
 induction f with
 |zero=>
  intro pos seq acc hf _
  have e:scanP log pos seq acc=(acc,pos):=by
   rw[scanP];split
   ·rw[zex,dif_neg (by omega)]
   ·rfl
  rw[e];show scanP log' pos seq acc=scanP log' pos (seq+(acc.length:Int) - (acc.length:Int)) acc;rw[show seq+(acc.length:Int) - (acc.length:Int)=seq by omega]
 |succ f ih=>
  intro pos seq acc hf hm;by_cases hq:seq<2147483647
  ·cases hr:zex log seq pos (zds seq) with
   |none=>
    have e:scanP log pos seq acc=(acc,pos):=by rw[scanP,dif_pos hq,hr]
    rw[e];show scanP log' pos seq acc=scanP log' pos (seq+(acc.length:Int) - (acc.length:Int)) acc;rw[show seq+(acc.length:Int) - (acc.length:Int)=seq by omega]
   |some x=>
    obtain⟨n,t⟩:=x;have e:scanP log pos seq acc=scanP log n (seq+1) (acc++[t]):=by rw[scanP,dif_pos hq,hr]
    rw[e] at hm⊢;have hb:=zde log seq _ pos _ n t (Nat.le_refl _) hr;have hge:=zuj log _ n (seq+1) (acc++[t]) (Nat.le_refl _);have hr':=zv2 hl hm seq _ pos _ n t (Nat.le_refl _) hr hge.1;have e':scanP log' pos seq acc=scanP log' n (seq+1) (acc++[t]):=by rw[scanP,dif_pos hq,hr']
    rw[e',ih n (seq+1) (acc++[t]) (by omega) hm]
    congr 1
    rw[List.length_append,List.length_singleton]
    push_cast
    omega
  ·have e:scanP log pos seq acc=(acc,pos):=by rw[scanP,dif_neg hq]
   rw[e];show scanP log' pos seq acc=scanP log' pos (seq+(acc.length:Int) - (acc.length:Int)) acc;rw[show seq+(acc.length:Int) - (acc.length:Int)=seq by omega]
theorem zy2 {l r:List ByteArray}{j:Nat}(h:j<l.length):(l++r).getD j ByteArray.empty=l.getD j ByteArray.empty:=by
 rw[List.getD,List.getD,List.getElem?_append_left h]
theorem zy3 {l r:List ByteArray}(j:Nat):(l++r).getD (l.length+j) ByteArray.empty=r.getD j ByteArray.empty:=by
 rw[List.getD,List.getD,List.getElem?_append_right (by omega),show l.length+j - l.length=j by omega]
def zop (l:List (Mk×List ByteArray)):List ByteArray:=l.flatMap fun x=>encT x.1::x.2
def z3i (N:Int)(x:Mk×List ByteArray):Prop:=goodM x.1=0∧x.1.seq=N∧x.1.kind≠1∧x.1.kind≠4∧x.2.length=x.1.tags.length
theorem zy4 (x:Mk×List ByteArray)(l:List (Mk×List ByteArray)):zop (x::l)=encT x.1::(x.2++zop l):=by simp[zop]
def zlm:List (Int×Bool)→List ByteArray→List (Int×ByteArray)
 |x::r,s::l=>(x.1,zew s x.2)::zlm r l
 |_,_=>[]
theorem zoq {log:List ByteArray}:∀(g:List (Int×Bool)) (l:List ByteArray) (i:Nat),l.length=g.length→(∀j,j<l.length→log.getD (i+j) ByteArray.empty=l.getD j ByteArray.empty)→copiesAt log i g=zlm g l:=by
 intro g
 induction g with
 |nil=>intro l i _ _;cases l<;>rfl
 |cons x r ih=>
  intro l i hl h
  cases l with
  |nil=>simp at hl
  |cons s l=>
   rw[copiesAt,zlm];have h0:=h 0 (by simp);simp only[Nat.add_zero,List.getD_cons_zero] at h0
   rw[h0,ih l (i+1) (by simpa using hl) (fun j hj=>by
    have:=h (j+1) (by simp;omega);rw[List.getD_cons_succ] at this
    rw[show i+1+j=i+(j+1) by omega];exact this)]
def z4g (t:Tx)(l:List (Mk×List ByteArray)):Tx:={t with rev:=t.rev++l.flatMap (·.1.blocks),info:=t.info++l.flatMap (fun x=>zlm x.1.tags x.2)}
theorem z1n {N:Int}{cm:Mk}(hcm:goodM cm=0)(hcq:cm.seq=N)(hck:cm.kind=4):∀(l:List (Mk×List ByteArray)) (log:List ByteArray) (i:Nat) (t:Tx),(∀x∈l,z3i N x)→i+(zop l).length+1≤log.length→
  (∀j,j<(zop l).length→log.getD (i+j) ByteArray.empty=(zop l).getD j ByteArray.empty)→log.getD (i+(zop l).length) ByteArray.empty=encT cm→zex log N i t=some (i+(zop l).length+1,z4g t l):=by
 intro l
 induction l with
 |nil=>
  intro log i t _ hlen _ h;have e:log.getD i ByteArray.empty=encT cm:=h;rw[zex,dif_pos (by simp[zop] at hlen;omega),e,zjm hcm,if_neg (by simp[hcq,hck]),if_pos hck];simp[zop,z4g]
 |cons x l ih=>
  intro log i t hok hlen hall hend;rw[zy4] at hlen hall hend⊢;simp only[List.length_cons,List.length_append] at hlen hend;obtain⟨hg,hq,hk1,hk4,hl⟩:=hok x (by simp);have e:log.getD i ByteArray.empty=encT x.1:=by simpa using hall 0 (by simp)
  rw[zex,dif_pos (by omega),e,zjm hg];dsimp only;rw[if_neg (by simp;exact⟨hq,hk1⟩),if_neg hk4,if_pos (by omega)]
  have hc:copiesAt log (i+1) x.1.tags=zlm x.1.tags x.2:=zoq _ _ _ hl (fun j hj=>by
   have:=hall (j+1) (by simp;omega);rw[List.getD_cons_succ,zy2 hj] at this
   rw[show i+1+j=i+(j+1) by omega];exact this)
  have h1:∀j,j<(zop l).length→log.getD (i+1+x.1.tags.length+j) ByteArray.empty=(zop l).getD j ByteArray.empty:=by
   intro j hj;have:=hall (1+x.2.length+j) (by simp;omega);rw[show 1+x.2.length+j=(x.2.length+j)+1 by omega,List.getD_cons_succ,zy3] at this;rw[show i+1+x.1.tags.length+j=i+(x.2.length+j+1) by omega];exact this
  have h2:log.getD (i+1+x.1.tags.length+(zop l).length) ByteArray.empty=encT cm:=by
   rw[show i+1+x.1.tags.length+(zop l).length=i+(x.2.length+(zop l).length+1) by omega];exact hend
  rw[ih log _ _ (fun y hy=>hok y (by simp[hy])) (by omega) h1 h2];simp only[List.length_cons,List.length_append,Option.some.injEq,Prod.mk.injEq];refine⟨by omega,?_⟩;simp[z4g,more,hc]
def segsOf (t:Tx):List (Mk×List ByteArray):=(if t.rev.length=0 then[] else[(⟨3,t.seq,0,[],t.rev⟩,[])])++(List.range (zcy t.info.length 10)).map fun k=>(⟨2,t.seq,0,tagsOf (partOf t.info k),[]⟩,textsOf (partOf t.info k))
theorem zhf (t:Tx):zop (segsOf t)=logB t:=by
 unfold zop segsOf logB zvv zhq;rw[List.flatMap_append,List.flatMap_map]
 congr 1
 split<;>simp
theorem zv3 {l:List (Int×ByteArray)}(h:zbg (blksOf l)=true)(k:Nat):zbg ((tagsOf (partOf l k)).map (·.1))=true:=by
 have e:(tagsOf (partOf l k)).map (·.1)=blksOf (partOf l k):=by simp[tagsOf,blksOf]
 rw[e];rw[za8] at h⊢
 have hs:(blksOf (partOf l k)).Sublist (blksOf l):=by
  unfold blksOf partOf;exact((List.take_sublist _ _).trans (List.drop_sublist _ _)).map _
 exact⟨fun x hx=>h.1 x (hs.subset hx),h.2.sublist hs⟩
theorem zsv {t:Tx}(hg:zba t=true):∀x∈segsOf t,z3i t.seq x:=by
 obtain⟨⟨q1,q2⟩,_,⟨r1,_,r3⟩,_⟩:=(za7 t).1 hg;have hs:=zaw hg;intro x hx;unfold segsOf at hx;rcases List.mem_append.1 hx with h|h
 ·split at h
  ·cases h
  ·rename_i h0
   rw[List.mem_singleton.1 h];refine⟨?_,rfl,by simp,by simp,rfl⟩;unfold goodM;rw[if_neg (by simp),if_neg (by simp;omega),if_neg (by simp),if_neg];rintro(⟨h2,_⟩|⟨_,h2⟩|h2|h2)
   ·simp at h2
   ·simp only at h2;omega
   ·simp[zbg,zaz] at h2
   ·simp only[r3] at h2;cases h2
 ·obtain⟨k,hk,rfl⟩:=List.mem_map.1 h
  have hk':=List.mem_range.1 hk;have hpl:=zfu t.info k
  have hlen:1≤(partOf t.info k).length∧(partOf t.info k).length≤10:=by
   rw[hpl];unfold zcy at hk';unfold ze7;split<;>omega
  refine⟨?_,rfl,by simp,by simp,by simp[tagsOf,textsOf]⟩;unfold goodM;rw[if_neg (by simp),if_neg (by simp;omega),if_neg (by simp),if_neg];rintro(⟨_,h2⟩|⟨h2,_⟩|h2|h2)
  ·simp only[tagsOf,List.length_map] at h2;omega
  ·simp at h2
  ·simp only[zv3 r1 k] at h2;cases h2
  ·simp[zbg,zaz] at h2
theorem zy5 (l:List (Int×ByteArray)):zlm (tagsOf l) (textsOf l)=l:=by
 induction l with
 |nil=>rfl
 |cons x r ih=>
  show(x.1,zew (escT x.2) (isMagic x.2))::zlm (tagsOf r) (textsOf r)=x::r;rw[ih,zy0]
theorem zsw {l:List (Int×ByteArray)}(h:l.length≤12):(List.range (zcy l.length 10)).flatMap (partOf l)=l:=by
 by_cases h0:l.length=0
 ·rw[List.eq_nil_of_length_eq_zero h0];rfl
 ·by_cases h1:l.length≤10
  ·have e:zcy l.length 10=1:=by unfold zcy;omega
   rw[e];simp[partOf,List.range_succ];exact List.take_of_length_le h1
  ·have e:zcy l.length 10=2:=by unfold zcy;omega
   rw[e];have e2:(l.drop 10).take 10=l.drop 10:=List.take_of_length_le (by rw[List.length_drop];omega);simp[partOf,List.range_succ,e2]
def zd3 (t:Tx):Tx:=⟨t.seq,t.info,[],t.rev,⟨false,0⟩,⟨false,0⟩,⟨false,0⟩⟩
theorem zy6 {t:Tx}(hg:zba t=true):z4g (zds t.seq) (segsOf t)=zd3 t:=by
 have hs:=zaw hg
 have e1:(segsOf t).flatMap (·.1.blocks)=t.rev:=by
  unfold segsOf;rw[List.flatMap_append,List.flatMap_map];split
  ·rename_i h;simp[List.eq_nil_of_length_eq_zero h]
  ·simp
 have e2:(segsOf t).flatMap (fun x=>zlm x.1.tags x.2)=t.info:=by
  unfold segsOf;rw[List.flatMap_append,List.flatMap_map]
  have:((List.range (zcy t.info.length 10)).flatMap fun k=>zlm (tagsOf (partOf t.info k)) (textsOf (partOf t.info k)))=t.info:=by
   rw[show(fun k=>zlm (tagsOf (partOf t.info k)) (textsOf (partOf t.info k)))=partOf t.info from funext fun k=>zy5 _];exact zsw hs.1
  split
  ·simpa using this
  ·simpa[zlm] using this
 unfold z4g zd3 zds;rw[e1,e2];simp
theorem zln {t:Tx}(hg:zba t=true):goodM ⟨4,t.seq,0,[],[]⟩=0:=by
 obtain⟨⟨q1,q2⟩,_⟩:=(za7 t).1 hg;unfold goodM;rw[if_neg (by simp),if_neg (by simp;omega),if_neg (by simp),if_neg];simp[zbg,zaz]
theorem zi2 {ps:List Int}{l:List ByteArray}{s:St}(h:s∈putS ps l):∃i,i<l.length∧i<ps.length∧s=zbh (1+ps.getD i 0) (l.getD i ByteArray.empty):=by
 obtain⟨i,hi⟩:=List.getElem?_of_mem h;have hlt:=(List.getElem?_eq_some_iff.1 hi).1;unfold putS at hi hlt;rw[List.length_zipWith] at hlt;have h1:i<l.length:=by omega
 have h2:i<ps.length:=by omega
 refine⟨i,h1,h2,?_⟩;rw[List.getElem?_zipWith,List.getElem?_eq_getElem h1,List.getElem?_eq_getElem h2] at hi;simp only[Option.some.injEq] at hi;rw[←hi,List.getD,List.getD,List.getElem?_eq_getElem h1,List.getElem?_eq_getElem h2];rfl
theorem zy7:∀(l:List ByteArray) (ps:List Int) (d:Dk),l.length≤ps.length→ps.Nodup→(∀p∈ps,0≤p∧p≤23)→(∀s∈l,za9 s=true)→za1 d=true→d.wr.length+l.length≤200→∀i,i<l.length→zal (runK d (putS ps l)) (1+ps.getD i 0)=l.getD i ByteArray.empty:=by
 intro l
 induction l with
 |nil=>intro ps d _ _ _ _ _ _ i hi;simp at hi
 |cons s l ih=>
  intro ps d hl hnd hp hf hg hw i hi
  cases ps with
  |nil=>simp at hl
  |cons p ps=>
   have hpp:=hp p (by simp);simp only[List.length_cons] at hl hw hi;have he:zh0 d (1+p) s=0:=zd9 hg (by simp[zbx];omega) (hf s (by simp)) (by omega);have e:runK d (putS (p::ps) (s::l))=runK (zg6 d (1+p) s) (putS ps l):=rfl;have hnd2:=List.nodup_cons.1 hnd;rw[e]
   cases i with
   |succ i=>
    rw[List.getD_cons_succ,List.getD_cons_succ];exact ih ps _ (by omega) hnd2.2 (fun x hx=>hp x (by simp[hx])) (fun x hx=>hf x (by simp[hx])) (zd1 he) (by rw[zek he];simp;omega) i (by omega)
   |zero=>
    rw[List.getD_cons_zero,List.getD_cons_zero]
    have h1:=(zyo (1+p).toNat (by omega) (putS ps l) _ (zd1 he) (fun x hx _=>by
     obtain⟨j,_,hj,rfl⟩:=zi2 hx;show 1+ps.getD j 0≠_;intro hc;have hpj:ps.getD j 0=p:=by omega
     refine hnd2.1 ?_;rw[←hpj,List.getD,List.getElem?_eq_getElem hj]
     exact List.getElem_mem hj)).1
    rw[show(((1+p).toNat:Nat):Int)=1+p by omega] at h1;rw[h1];exact(zod he).1
theorem zqg (h:Int){n:Nat}(hn:n≤24):(zbt h n).Nodup:=by
 unfold zbt List.Nodup;rw[List.pairwise_map];refine List.Pairwise.imp_of_mem ?_ (List.pairwise_lt_range (n:=n));intro a b ha hb hab;have:=List.mem_range.1 ha;have:=List.mem_range.1 hb;omega
theorem zuk {t:Tx}(hg:zba t=true):∀s∈logB t,za9 s=true:=by
 intro s hs;rw[←zhf,zop] at hs;obtain⟨x,hx,h⟩:=List.mem_flatMap.1 hs;rcases List.mem_cons.1 h with rfl|h
 ·have:=ze1 (zsv hg x hx).1
  simp[za9];omega
 ·unfold segsOf at hx
  rcases List.mem_append.1 hx with h2|h2
  ·split at h2
   ·cases h2
   ·rw[List.mem_singleton.1 h2] at h;cases h
  ·obtain⟨k,_,rfl⟩:=List.mem_map.1 h2
   obtain⟨c,hc,rfl⟩:=List.mem_map.1 h;have hc2:c∈t.info:=List.mem_of_mem_drop (List.mem_of_mem_take hc);have hf:=((za7 t).1 hg).2.1.1;have:=List.all_eq_true.1 hf c hc2;simp only[za9] at this⊢;rw[zol];exact this
theorem zhg {t:Tx}(hg:zba t=true):∀x∈t.data,0≤x.1∧x.1≤11∧za9 x.2=true:=by
 obtain⟨_,⟨_,hf⟩,⟨_,r2,_⟩,_⟩:=(za7 t).1 hg;intro x hx;have h1:=((za8 _).1 r2).1 x.1 (List.mem_map.2 ⟨x,hx,rfl⟩);exact⟨h1.1,h1.2,List.all_eq_true.1 hf x hx⟩
def sealA (P:Int)(t:Tx):List St:=homeS t.data++putS (zbt P ((logB t).length+1)) (logB t)
def sealF (t:Tx):List St:=if 0<t.rev.length+t.info.length then[zby] else[]
def zgw (P:Int)(t:Tx):St:=zbh (1+(P+((logB t).length:Int))%24) (zkj t)
theorem zb2 {P U:Int}{t:Tx}(h:sealE P U t=0):commitS P U t=sealA P t++sealF t++[zgw P t,zby]∧zba t=true∧(0≤P∧P≤23)∧0≤U∧U+((logB t).length:Int)+1≤24:=by
 obtain⟨hg,_,hl,_⟩:=zlh h;have h0:=h;unfold sealE at h0;split at h0
 ·cases h0
 ·rename_i hc
  have hgr:zh7 P U=true:=by cases e:zh7 P U;exact absurd (.inl e) hc;rfl
  obtain⟨p1,p2,u1,u2⟩:=zp0 hgr;have hs:=zaw hg;have hn:=zel t hs.1 hs.2.2
  have hps:sealP P U t=zbt P ((logB t).length+1):=by
   rw[sealP,if_pos h,takeL,if_pos h0]
   congr 1;omega
  refine⟨?_,hg,⟨p1,p2⟩,u1,?_⟩
  ·rw[commitS,if_pos h,hps,zdb _ _ _ (by omega)]
   simp[sealA,sealF,zgw]
  ·unfold takeE at h0
   split at h0
   ·cases h0
   ·split at h0
    ·cases h0
    ·omega
theorem z1o {t:Tx}(h:¬0<t.rev.length+t.info.length):logB t=[]:=by
 have h1:t.rev=[]:=List.eq_nil_of_length_eq_zero (by omega);have h2:t.info=[]:=List.eq_nil_of_length_eq_zero (by omega);rw[logB,zvv,h1,h2];rfl
section
variable {D:Dk} {P U:Int} {t:Tx}
theorem zhh (h:sealE P U t=0):(∀s∈commitS P U t,zdt s)∧(commitS P U t).length≤50:=by
 obtain⟨e,hg,hP,_,hU⟩:=zb2 h;have hd:=zd0 (zhg hg);have hs:=zaw hg;refine⟨?_,?_⟩
 ·rw[e]
  intro s hs;rcases List.mem_append.1 hs with h1|h1
  ·rcases List.mem_append.1 h1 with h1|h1
   ·rcases List.mem_append.1 h1 with h1|h1
    ·exact hd.1 s h1
    ·obtain⟨i,hi,hi2,rfl⟩:=zi2 h1
     rw[zbl] at hi2;refine .inr ⟨?_,?_⟩
     ·show zbx (1+(zbt P _).getD i 0)=true
      rw[zdb _ _ _ hi2];simp[zbx];omega
     ·show za9 ((logB t).getD i ByteArray.empty)=true
      rw[List.getD,List.getElem?_eq_getElem hi];exact zuk hg _ (List.getElem_mem hi)
   ·unfold sealF at h1
    split at h1
    ·rw[List.mem_singleton.1 h1];exact .inl rfl
    ·cases h1
  ·rcases List.mem_cons.1 h1 with rfl|h1
   ·refine .inr ⟨?_,?_⟩
    ·show zbx (1+(P+_)%24)=true
     simp[zbx];omega
    ·show za9 (zkj t)=true
     have:=ze1 (zln hg);simp[za9,zkj];omega
   ·rw[List.mem_singleton.1 h1];exact .inl rfl
 ·rw[e]
  have h1:(homeS t.data).length≤13:=by rw[homeS,List.length_append,zcf];split<;>simp<;>omega
  have h2:(putS (zbt P ((logB t).length+1)) (logB t)).length=(logB t).length:=zdz (by rw[zbl];omega);have h3:(sealF t).length≤1:=by unfold sealF;split<;>simp
  simp only[sealA,List.length_append,List.length_cons,List.length_nil,h2];omega
theorem zkz (h:sealE P U t=0){n:Nat}(hn:n<25):∀s∈sealA P t++sealF t,s.1≠2→s.2.1=(n:Int)→∃i,i<(logB t).length∧(n:Int)=1+(P+(i:Int))%24∧s.2.2=(logB t).getD i ByteArray.empty:=by
 obtain⟨_,hg,_,_,_⟩:=zb2 h
 intro s hs hk hat
 rcases List.mem_append.1 hs with h1|h1
 ·rcases List.mem_append.1 h1 with h1|h1
  ·exact absurd hat ((zd0 (zhg hg)).2 n hn s h1 hk)
  ·obtain⟨i,hi,hi2,rfl⟩:=zi2 h1
   rw[zbl] at hi2;refine⟨i,hi,?_,rfl⟩;rw[←hat];show 1+(zbt P _).getD i 0=_;rw[zdb _ _ _ hi2]
 ·unfold sealF at h1
  split at h1
  ·rw[List.mem_singleton.1 h1] at hk;exact absurd rfl hk
  ·cases h1
theorem zy8 (hg:za1 D=true)(hw:D.wr=[])(h:sealE P U t=0){k:Nat}(hk:k≤(commitS P U t).length):
  za1 (runK D ((commitS P U t).take k))=true∧
  (∀n:Nat,n<25→(∀i:Nat,i≤(logB t).length→(n:Int)≠1+(P+(i:Int))%24)→Only (runK D ((commitS P U t).take k)) n (zal D n))∧
  ((k+1<(commitS P U t).length∧(∀(n i:Nat),i<(logB t).length→(n:Int)=1+(P+(i:Int))%24→zst (runK D ((commitS P U t).take k)) n (fun s=>s=zal D n∨s=(logB t).getD i ByteArray.empty))∧(∀n:Nat,(n:Int)=1+(P+((logB t).length:Int))%24→Only (runK D ((commitS P U t).take k)) n (zal D n)))∨
   ((commitS P U t).length≤k+1∧(∀(n i:Nat),i<(logB t).length→(n:Int)=1+(P+(i:Int))%24→Only (runK D ((commitS P U t).take k)) n ((logB t).getD i ByteArray.empty))∧(∀n:Nat,(n:Int)=1+(P+((logB t).length:Int))%24→zst (runK D ((commitS P U t).take k)) n (fun s=>(k<(commitS P U t).length∧s=zal D n)∨s=zkj t)))):=by
 obtain⟨e,hgt,hP,hU0,hU⟩:=zb2 h;obtain⟨hok,hlen⟩:=zhh h
 have hoD:∀n:Nat,n<37→Only D n (zal D n):=by
  intro n hn;obtain⟨sf,wr⟩:=D;simp only at hw;subst hw;exact zlj hg hn
 have hokT:∀s∈(commitS P U t).take k,zdt s:=fun s hs=>hok s (List.mem_of_mem_take hs);have hlT:D.wr.length+((commitS P U t).take k).length≤200:=by rw[hw,List.length_take];simp;omega
 have hall:∀{n:Nat},n<25→∀s∈commitS P U t,s.1≠2→s.2.1=(n:Int)→(∃i,i<(logB t).length∧(n:Int)=1+(P+(i:Int))%24∧s.2.2=(logB t).getD i ByteArray.empty)∨((n:Int)=1+(P+((logB t).length:Int))%24∧s=zgw P t):=by
  intro n hn s hs hk2 hat
  rw[e] at hs;rcases List.mem_append.1 hs with h1|h1
  ·exact .inl (zkz h hn s h1 hk2 hat)
  ·rcases List.mem_cons.1 h1 with rfl|h1
   ·exact .inr ⟨hat.symm,rfl⟩
   ·rw[List.mem_singleton.1 h1] at hk2;exact absurd rfl hk2
 have hgR:=(zcn _ D hokT hg hlT).1;refine⟨hgR,?_,?_⟩
 ·intro n hn hno
  refine zhe (by omega) _ D hokT hg hlT (hoD n (by omega)) fun s hs hk2 hat=>?_;rcases hall hn s (List.mem_of_mem_take hs) hk2 hat with⟨i,hi,h1,_⟩|⟨h1,_⟩
  ·exact hno i (by omega) h1
  ·exact hno _ (Nat.le_refl _) h1
 ·have hlA:(commitS P U t).length=(sealA P t++sealF t).length+2:=by rw[e,List.length_append];rfl
  by_cases hk1:k+1<(commitS P U t).length
  ·have eT:(commitS P U t).take k=(sealA P t++sealF t).take k:=by rw[e,List.take_append_of_le_length (by omega)]
   refine .inl ⟨hk1,?_,?_⟩
   ·intro n i hi hni
    have hn:n<25:=by omega
    refine zll (by omega) _ D hokT hg hlT (fun s hs=>.inl (hoD n (by omega) s hs)) fun s hs hk2 hat=>?_;rw[eT] at hs
    obtain⟨j,hj,h1,h2⟩:=zkz h hn s (List.mem_of_mem_take hs) hk2 hat
    have:j=i:=by omega
    subst this;exact .inr h2
   ·intro n hni
    have hn:n<25:=by omega
    refine zhe (by omega) _ D hokT hg hlT (hoD n (by omega)) fun s hs hk2 hat=>?_;rw[eT] at hs
    obtain⟨j,hj,h1,h2⟩:=zkz h hn s (List.mem_of_mem_take hs) hk2 hat
    omega
  ·have hokA:∀s∈sealA P t++sealF t,zdt s:=fun s hs=>hok s (by rw[e];exact List.mem_append.2 (.inl hs))
   have hlA2:D.wr.length+(sealA P t++sealF t).length≤200:=by rw[hw];simp at hlA⊢;omega
   have hgA:=zcn _ D hokA hg hlA2
   have hdone:∀(n i:Nat),i<(logB t).length→(n:Int)=1+(P+(i:Int))%24→Only (runK D (sealA P t++sealF t)) n ((logB t).getD i ByteArray.empty):=by
    intro n i hi hni
    have hpos:0<t.rev.length+t.info.length:=by
     by_cases hx:0<t.rev.length+t.info.length
     ·exact hx
     ·rw[z1o hx] at hi;simp at hi
    have hokB:∀s∈sealA P t,zdt s:=fun s hs=>hokA s (List.mem_append.2 (.inl hs));have hlB:D.wr.length+(sealA P t).length≤200:=by simp at hlA2⊢;omega
    have hgB:=zcn _ D hokB hg hlB;have eF:runK D (sealA P t++sealF t)=zck (runK D (sealA P t)):=by rw[zca,sealF,if_pos hpos];rfl
    rw[eF];have h1:=zdh hgB.1 (n:=n) (by omega)
    have h2:zal (runK D (sealA P t)) n=(logB t).getD i ByteArray.empty:=by
     rw[sealA,zca];have hd:=zd0 (zhg hgt)
     have hs13:(homeS t.data).length≤13:=by
      have:=zaw hgt;rw[homeS,List.length_append,zcf];split<;>simp<;>omega
     have hgH:=zcn (homeS t.data) D hd.1 hg (by rw[hw];simp;omega)
     have:=zy7 (logB t) (zbt P ((logB t).length+1)) (runK D (homeS t.data)) (by rw[zbl];omega) (zqg P (by omega)) (fun p hp=>by
      unfold zbt at hp;obtain⟨j,_,rfl⟩:=List.mem_map.1 hp
      omega) (zuk hgt) hgH.1 (by have:=hgH.2;rw[hw] at this;simp at this;omega) i hi
     rw[zdb _ _ _ (by omega),←hni] at this;exact this
    rwa [h2] at h1
   have hokC:zdt (zgw P t):=hok _ (by rw[e];simp);have hlC:(runK D (sealA P t++sealF t)).wr.length<200:=by have:=hgA.2;rw[hw] at this;simp at this hlA;omega
   have hgC:=zgu hokC hgA.1 hlC;have hlC2:(zbf (runK D (sealA P t++sealF t)) (zgw P t)).wr.length<200:=by have:=hgC.2;have:=hgA.2;rw[hw] at this;simp at this hlA;omega
   have keepC:∀(n:Nat) (v:ByteArray),n<25→(n:Int)≠1+(P+((logB t).length:Int))%24→Only (runK D (sealA P t++sealF t)) n v→Only (zbf (runK D (sealA P t++sealF t)) (zgw P t)) n v:=fun n v hn hne hv=>zi1 hokC hgA.1 hlC (by omega) hv (fun _ hx=>hne hx.symm)
   have oldC:∀n:Nat,(n:Int)=1+(P+((logB t).length:Int))%24→zst (zbf (runK D (sealA P t++sealF t)) (zgw P t)) n (fun s=>s=zal D n∨s=zkj t):=by
    intro n hni;refine znf hokC hgA.1 hlC (by omega) ?_ (fun _ _=>.inr rfl)
    have:=zhe (n:=n) (by omega) _ D hokA hg hlA2 (hoD n (by omega)) fun s hs hk2 hat=>by
     obtain⟨j,hj,h1,h2⟩:=zkz h (by omega) s hs hk2 hat
     omega
    exact fun s hs=>.inl (this s hs)
   refine .inr ⟨by omega,?_⟩;by_cases hk3:k=(commitS P U t).length
   ·have eT:runK D ((commitS P U t).take k)=zck (zbf (runK D (sealA P t++sealF t)) (zgw P t)):=by
     rw[hk3,List.take_length,e,zca];rfl
    rw[eT];refine⟨fun n i hi hni=>?_,fun n hni s hs=>?_⟩
    ·have h1:=keepC n _ (by omega) (by omega) (hdone n i hi hni)
     have h2:=zdh hgC.1 (n:=n) (by omega)
     rwa [h1.read hgC.1 (by omega)] at h2
    ·have h2:=zdh hgC.1 (n:=n) (by omega) s hs
     refine .inr ?_;rw[h2]
     have he:zh0 (runK D (sealA P t++sealF t)) (1+(P+((logB t).length:Int))%24) (zkj t)=0:=by
      obtain⟨a,b⟩:=hokC.resolve_left (by simp[zgw,zbh]);exact zd9 hgA.1 a b hlC
     have:=(zod he).1;rw[hni];exact this
   ·have eT:runK D ((commitS P U t).take k)=zbf (runK D (sealA P t++sealF t)) (zgw P t):=by
     have:(commitS P U t).take k=(sealA P t++sealF t)++[zgw P t]:=by
      rw[e,List.take_append,List.take_of_length_le (by omega),show k - (sealA P t++sealF t).length=1 by omega];rfl
     rw[this,zca];rfl
    rw[eT];refine⟨fun n i hi hni=>keepC n _ (by omega) (by omega) (hdone n i hi hni),fun n hni s hs=>?_⟩;rcases oldC n hni s hs with h1|h1
    ·exact .inl ⟨by omega,h1⟩
    ·exact .inr h1
end
def z1p (d:Dk):Int:=if(fndP d - (zao d).pos)%24=0∧0<(fndL d).length then 24 else(fndP d - (zao d).pos)%24
theorem zsx (log:List ByteArray)(pos:Nat)(seq:Int)(acc:List Tx):(scanP log pos seq acc=(acc,pos))∨(acc.length<(scanP log pos seq acc).1.length∧pos<(scanP log pos seq acc).2):=by
 rw[scanP];split
 ·split
  ·exact .inl rfl
  ·rename_i n t hr
   have hb:=zde log seq _ pos _ n t (Nat.le_refl _) hr;have:=zuj log _ n (seq+1) (acc++[t]) (Nat.le_refl _);rw[List.length_append,List.length_singleton] at this;exact .inr ⟨by omega,by omega⟩
 ·exact .inl rfl
theorem zi3 {d:Dk}(h:scanE d=0):z1p d=((zbv d).2:Int)∧(zbv d).2≤24∧fndP d=((zao d).pos+((zbv d).2:Int))%24∧fndN d=(zao d).seq+((zbv d).1.length:Int):=by
 obtain⟨_,⟨q1,q2⟩,p1,p2,_,_⟩:=zhc h
 have hle:(zbv d).2≤24:=by
  have:=(znd (logOf d (zao d).pos) 24 0 (zao d).seq [] (by rw[za6];omega) (fun t ht=>by cases ht) q2).2.2 (Nat.zero_le _);rw[za6] at this;exact this
 have hP:fndP d=((zao d).pos+((zbv d).2:Int))%24:=by rw[fndP,if_pos h];omega
 have hm:=zsx (logOf d (zao d).pos) 0 (zao d).seq [];refine⟨?_,hle,hP,by rw[fndN,if_pos h]⟩;have hL:(fndL d).length=(zbv d).1.length:=by rw[fndL,if_pos h]
 rw[z1p,hL];rcases hm with e|⟨e1,e2⟩
 ·have e':zbv d=([],0):=e
  rw[hP,e'];rw[if_neg (by simp)];show(((zao d).pos+((0:Nat):Int))%24 - (zao d).pos)%24=((0:Nat):Int);omega
 ·have e1':0<(zbv d).1.length:=e1
  have e2':0<(zbv d).2:=e2;split<;>omega
def NoEnd (M:Int)(s:ByteArray):Prop:=(zaq s).2=0→(zaq s).1.kind=4→(zaq s).1.seq<M
theorem NoEnd.mono {M M':Int}{s:ByteArray}(h:NoEnd M s)(hm:M≤M'):NoEnd M' s:=fun a b=>by have:=h a b;omega
theorem zjn {log:List ByteArray}{N M:Int}(h:∀i,i<log.length→NoEnd N (log.getD i ByteArray.empty))(hM:N≤M):∀(f i:Nat) (t:Tx),log.length - i≤f→zex log M i t=none:=by
 intro f
 induction f with
 |zero=>intro i t hf;rw[zex,dif_neg (by omega)]
 |succ f ih=>
  intro i t hf;rw[zex];split
  ·rename_i hi
   split
   ·rfl
   ·rename_i h2
    simp only[not_or,ne_eq,Decidable.not_not] at h2;split
    ·rename_i h3
     have:=h i hi h2.1 h3;omega
    ·split
     ·exact ih _ _ (by omega)
     ·rfl
  ·rfl
theorem zlo {t:Tx}(hg:zba t=true)(M:Int):∀s∈logB t,NoEnd M s:=by
 intro s hs;rw[←zhf] at hs;obtain⟨x,hx,hs⟩:=List.mem_flatMap.1 hs;obtain⟨g1,_,_,g4,_⟩:=zsv hg x hx;rcases List.mem_cons.1 hs with rfl|hs
 ·intro _ h4
  rw[zjm g1] at h4;exact absurd h4 g4
 ·have hesc:∃c,s=escT c:=by
   rcases List.mem_append.1 hx with hx|hx
   ·split at hx
    ·cases hx
    ·rw[List.mem_singleton.1 hx] at hs;cases hs
   ·obtain⟨k,_,rfl⟩:=List.mem_map.1 hx
    obtain⟨c,_,rfl⟩:=List.mem_map.1 hs;exact⟨_,rfl⟩
  obtain⟨c,rfl⟩:=hesc;intro h1;rw[zqd (zyz c)] at h1;cases h1
theorem zv4 {t:Tx}(hg:zba t=true):NoEnd (t.seq+1) (zkj t):=by
 intro _ _;rw[zkj,zjm (zln hg)];show t.seq<t.seq+1;omega
structure Crashed (R X:Dk):Prop where
 good:za1 X=true
 clean:X.wr=[]
 at_:∀n:Nat,n<37→zal X n∈ways R n
theorem zv5 {R:Dk}(hg:za1 R=true){q:Int}(hq:0≤q):crashE R q=0∧Crashed R (crashK R q):=by
 have hd:decide (0≤q)=true:=by simpa using hq
 have hXe:crashK R q=⟨(zdg R q.toNat 37).1,[]⟩:=by rw[crashK,hg,hd];rfl
 refine⟨by rw[crashE,hg,hd];rfl,by rw[hXe];exact zne hg _,by rw[hXe],fun n hn=>?_⟩;rw[hXe,zgm (zne hg _) hn];exact zug _ _ _ hn
theorem zj4 {R:Dk}(hg:za1 R=true)(hw:R.wr=[]):Crashed R R:=by
 refine⟨hg,hw,fun n hn=>?_⟩;obtain⟨sf,wr⟩:=R;simp only at hw;subst hw;rw[zgm hg hn,zqe];simp
theorem zfi {D:Dk}(hg:za1 D=true)(hw:D.wr=[]){n:Nat}(hn:n<37):Only D n (zal D n):=by
 obtain⟨sf,wr⟩:=D;simp only at hw;subst hw;exact zlj hg hn
structure Tells (D:Dk)(l:List Tx)(N P U:Int):Prop where
 clean:D.wr=[]
 tE:scanE D=0
 tL:fndL D=l
 tN:fndN D=N
 tP:fndP D=P
 tU:z1p D=U
 goods:∀t∈l,zba t=true
 late:∀n:Nat,1≤n→n≤24→NoEnd N (zal D n)
theorem Tells.good {D:Dk}{l:List Tx}{N P U:Int}(h:Tells D l N P U):za1 D=true:=(zhc h.tE).1
theorem Tells.range {D:Dk}{l:List Tx}{N P U:Int}(h:Tells D l N P U):(1≤N∧N≤2147483647)∧(0≤P∧P≤23)∧0≤U∧U≤24:=by
 obtain⟨_,h1,h2,h3⟩:=zpx h.tE;obtain⟨u1,u2,_,_⟩:=zi3 h.tE;rw[h.tN] at h1;rw[h.tP] at h2 h3;rw[h.tU] at u1;exact⟨h1,⟨h2,h3⟩,by omega,by omega⟩
theorem Tells.congr {D X:Dk}{l:List Tx}{N P U:Int}(h:Tells D l N P U)(hg:za1 X=true)(hw:X.wr=[])(hr:∀n:Nat,n≤24→zal X n=zal D n):Tells X l N P U:=by
 obtain⟨e1,e2,e3,e4⟩:=zv0 hg h.good hr
 have hs:zao X=zao D:=by
  have e0:=hr 0 (by omega);have e0':zal X 0=zal D 0:=e0;rw[zao,zao,e0']
 refine⟨hw,e1.trans h.tE,e2.trans h.tL,e3.trans h.tN,e4.trans h.tP,?_,h.goods,fun n h1 h2=>by rw[hr n h2];exact h.late n h1 h2⟩;rw[z1p,e4,hs,e2];exact h.tU
theorem Tells.still {D X:Dk}{l:List Tx}{N P U:Int}(h:Tells D l N P U)(hX:Crashed D X):Tells X l N P U∧∀n:Nat,n<37→zal X n=zal D n:=by
 have hr:∀n:Nat,n<37→zal X n=zal D n:=fun n hn=>zfi h.good h.clean hn _ (hX.at_ n hn);exact⟨h.congr hX.good hX.clean (fun n hn=>hr n (by omega)),hr⟩
theorem zul {D:Dk}{l:List Tx}{N P U:Int}(h:Tells D l N P U){t:Tx}(hN:N<2147483646)(hq:t.seq=N)(hS:sealE P U t=0)(hgt:zba (zd3 t)=true){k:Nat}(hk:k≤(commitS P U t).length){X:Dk}(hX:Crashed (runK D ((commitS P U t).take k)) X):
  (Tells X l N P U∧k<(commitS P U t).length)∨(Tells X (l++[zd3 t]) (N+1) (zch P U t) (zcc P U t)∧(commitS P U t).length≤k+1):=by
 have hE:=h.tE;have hgD:=h.good;obtain⟨_,⟨sq1,sq2⟩,p1,p2,_,hkind⟩:=zhc hE;obtain⟨hU,hpos24,hPe,hNe⟩:=zi3 hE;rw[h.tU] at hU;rw[h.tP] at hPe;rw[h.tN] at hNe;obtain⟨_,hg,hP,hU0,hUn⟩:=zb2 hS;obtain⟨r1,r2,r3⟩:=zy8 hgD h.clean hS hk;generalize runK D ((commitS P U t).take k)=R at *;rw[hU] at hUn;have gX:=hX.good;have wX:=hX.at_
 have plc:∀i j:Nat,i<24→j≤(logB t).length→1+((zao D).pos+(i:Int))%24=1+(P+(j:Int))%24→i=(zbv D).2+j:=by
  intro i j hi hj he;rw[hPe] at he;omega
 have plc':∀j:Nat,j≤(logB t).length→1+((zao D).pos+(((zbv D).2+j:Nat):Int))%24=1+(P+(j:Int))%24:=by
  intro j hj;rw[hPe];omega
 have h0:zal X 0=zal D 0:=r2 0 (by omega) (fun i _=>by show(0:Int)≠_;omega) _ (wX 0 (by omega));have hs:zao X=zao D:=by rw[zao,zao,h0]
 have hEX:scanE X=0:=by
  have e1:readE X 0=0:=zfh gX (n:=0) (by omega);have e2:readE D 0=0:=zfh hgD (n:=0) (by omega);rw[←hE,scanE,scanE,hs,h0,e1,e2]
 have lD:∀i:Nat,i<24→(logOf D (zao D).pos).getD i ByteArray.empty=zal D ((1+(((zao D).pos+(i:Int))%24).toNat:Nat):Int):=by
  intro i hi;rw[zio _ _ _ hi]
  congr 1;omega
 have lX:∀i:Nat,i<24→(logOf X (zao D).pos).getD i ByteArray.empty=zal X ((1+(((zao D).pos+(i:Int))%24).toNat:Nat):Int):=by
  intro i hi;rw[zio _ _ _ hi]
  congr 1;omega
 have same:∀i:Nat,i<24→(∀j:Nat,j≤(logB t).length→i≠(zbv D).2+j)→(logOf D (zao D).pos).getD i ByteArray.empty=(logOf X (zao D).pos).getD i ByteArray.empty:=by
  intro i hi hne;rw[lD i hi,lX i hi];refine(r2 _ (by omega) (fun j hj he=>hne j hj (plc i j hi hj (by omega))) _ (wX _ (by omega))).symm
 have hsplit:=zsu (log:=logOf D (zao D).pos) (log':=logOf X (zao D).pos) (by rw[za6,za6]) 24 0 (zao D).seq [] (by rw[za6];omega) (fun i hi=>same i (by have:i<(zbv D).2:=hi;omega) (fun j _ he=>by have:i<(zbv D).2:=hi;omega))
 have hscan:zbv X=scanP (logOf X (zao D).pos) (zbv D).2 N (zbv D).1:=by
  rw[zbv,hs,hsplit,hNe];simp only[List.length_nil];show scanP _ (zbv D).2 ((zao D).seq+((zbv D).1.length:Int) - _) (zbv D).1=_
  congr 1;omega
 have fLD:l=(zbv D).1:=by rw[←h.tL,fndL,if_pos hE]
 have hlen:(zbv D).2+(zop (segsOf t)).length+1≤(logOf X (zao D).pos).length:=by rw[za6,zhf];omega
 have hok:∀x∈segsOf t,z3i N x:=by rw[←hq];exact zsv hg
 have blk:∀n:Nat,1≤n→n≤24→zal X n=zal D n∨(∃s∈logB t,zal X n=s)∨((commitS P U t).length≤k+1∧zal X n=zkj t):=by
  intro n h1 h2;by_cases hj:∀i:Nat,i≤(logB t).length→(n:Int)≠1+(P+(i:Int))%24
  ·exact .inl (r2 n (by omega) hj _ (wX n (by omega)))
  ·obtain⟨i,hi,hni⟩:∃i:Nat,i≤(logB t).length∧(n:Int)=1+(P+(i:Int))%24:=by
    refine Classical.byContradiction fun hx=>hj fun i hi he=>hx ⟨i,hi,he⟩
   rcases r3 with⟨hk1,a1,a2⟩|⟨hk1,a1,a2⟩
   ·by_cases hl:i<(logB t).length
    ·rcases a1 n i hl hni _ (wX n (by omega)) with e|e
     ·exact .inl e
     ·exact .inr (.inl ⟨_,List.getElem_mem hl,by rw[e,List.getD,List.getElem?_eq_getElem hl];rfl⟩)
    ·have:i=(logB t).length:=by omega
     subst this;exact .inl (a2 n hni _ (wX n (by omega)))
   ·by_cases hl:i<(logB t).length
    ·exact .inr (.inl ⟨_,List.getElem_mem hl,by rw[a1 n i hl hni _ (wX n (by omega)),List.getD,List.getElem?_eq_getElem hl];rfl⟩)
    ·have:i=(logB t).length:=by omega
     subst this;rcases a2 n hni _ (wX n (by omega)) with⟨_,e⟩|e
     ·exact .inl e
     ·exact .inr (.inr ⟨hk1,e⟩)
 have blkN:∀n:Nat,1≤n→n≤24→NoEnd (N+1) (zal X n):=by
  intro n h1 h2;rcases blk n h1 h2 with e|⟨s,hs,e⟩|⟨_,e⟩
  ·rw[e];exact(h.late n h1 h2).mono (by omega)
  ·rw[e];exact zlo hg _ s hs
  ·rw[e,←hq];exact zv4 hg
 have logN:∀M,(∀n:Nat,1≤n→n≤24→NoEnd M (zal X n))→∀i,i<(logOf X (zao D).pos).length→NoEnd M ((logOf X (zao D).pos).getD i ByteArray.empty):=by
  intro M hM i hi;rw[za6] at hi;rw[lX i hi];exact hM _ (by omega) (by omega)
 have without:(∀n:Nat,1≤n→n≤24→NoEnd N (zal X n))→Tells X l N P U:=by
  intro hno
  have hsc:zbv X=zbv D:=by
   rw[hscan,scanP,dif_pos (by omega),zjn (logN N hno) (Int.le_refl _) 24 _ _ (by rw[za6];omega)]
  refine⟨hX.clean,hEX,by rw[fndL,if_pos hEX,hsc,←fLD],by rw[fndN,if_pos hEX,hs,hsc];exact hNe.symm,by rw[←h.tP,fndP,if_pos hEX,hs,hsc,fndP,if_pos hE],?_,h.goods,hno⟩;rw[(zi3 hEX).1,hsc];exact hU.symm
 have mixAt:∀j:Nat,j≤(logB t).length→∃n:Nat,1≤n∧n<25∧(n:Int)=1+(P+(j:Int))%24∧(logOf X (zao D).pos).getD ((zbv D).2+j) ByteArray.empty=zal X n∧(logOf D (zao D).pos).getD ((zbv D).2+j) ByteArray.empty=zal D n:=by
  intro j hj;refine⟨1+(((zao D).pos+(((zbv D).2+j:Nat):Int))%24).toNat,by omega,by omega,?_,lX _ (by omega),lD _ (by omega)⟩;rw[←plc' j hj];omega
 by_cases hlast:(commitS P U t).length≤k+1∧∃n:Nat,1≤n∧n≤24∧(n:Int)=1+(P+((logB t).length:Int))%24∧zal X n=zkj t
 ·obtain⟨hk1,nl,hn1,hn2,hnl,hlb⟩:=hlast
  refine .inr ⟨?_,hk1⟩;rcases r3 with⟨hk2,_,_⟩|⟨_,a1,a2⟩
  ·omega
  have hnew:∀j:Nat,j<(logB t).length→(logOf X (zao D).pos).getD ((zbv D).2+j) ByteArray.empty=(logB t).getD j ByteArray.empty:=by
   intro j hj;obtain⟨n,_,hn,hni,eX,_⟩:=mixAt j (by omega);rw[eX,a1 n j hj hni _ (wX n (by omega))]
  obtain⟨n,_,hn,hni,eX,eD⟩:=mixAt _ (Nat.le_refl _);have hnn:n=nl:=by omega
  subst hnn;have hrun:=z1n (N:=N) (cm:=⟨4,t.seq,0,[],[]⟩) (zln hg) hq rfl (segsOf t) (logOf X (zao D).pos) (zbv D).2 (zds N) hok hlen (by rw[zhf];exact hnew) (by rw[zhf,eX,hlb];rfl);rw[←hq,zy6 hg,zhf,hq] at hrun;have hnone:zex (logOf X (zao D).pos) (N+1) ((zbv D).2+(logB t).length+1) (zds (N+1))=none:=zjn (logN _ blkN) (Int.le_refl _) 24 _ _ (by rw[za6];omega)
  have hsc:zbv X=((zbv D).1++[zd3 t],(zbv D).2+(logB t).length+1):=by
   rw[hscan,scanP,dif_pos (by omega),hrun];simp only;rw[scanP,dif_pos (by omega),hnone]
  have hn:=zel t (zaw hg).1 (zaw hg).2.2
  have hH:zch P U t=(P+needN t.info.length t.rev.length)%24:=by
   have h5:=hS;unfold sealE at h5;split at h5
   ·cases h5
   ·rw[zch,if_pos hS,takeH,if_pos h5]
  have hUU:zcc P U t=U+needN t.info.length t.rev.length:=by
   have h5:=hS;unfold sealE at h5;split at h5
   ·cases h5
   ·rw[zcc,if_pos hS,takeU,if_pos h5]
  refine⟨hX.clean,hEX,by rw[fndL,if_pos hEX,hsc,fLD],?_,?_,?_,?_,blkN⟩
  ·rw[fndN,if_pos hEX,hs,hsc]
   simp only[List.length_append,List.length_cons,List.length_nil];omega
  ·rw[fndP,if_pos hEX,hs,hsc,hH,←hn,hPe]
   simp only;omega
  ·rw[(zi3 hEX).1,hsc,hUU,←hn,hU]
   simp only;omega
  ·intro u hu
   rcases List.mem_append.1 hu with h6|h6
   ·exact h.goods u h6
   ·rw[List.mem_singleton.1 h6];exact hgt
 ·have hno:∀n:Nat,1≤n→n≤24→NoEnd N (zal X n):=by
   intro n h1 h2;rcases blk n h1 h2 with e|⟨s,hs,e⟩|⟨hk1,e⟩
   ·rw[e];exact h.late n h1 h2
   ·rw[e];exact zlo hg _ s hs
   ·by_cases hni:(n:Int)=1+(P+((logB t).length:Int))%24
    ·exact absurd ⟨hk1,n,h1,h2,hni,e⟩ hlast
    ·
     by_cases hj:∀i:Nat,i≤(logB t).length→(n:Int)≠1+(P+(i:Int))%24
     ·rw[r2 n (by omega) hj _ (wX n (by omega))];exact h.late n h1 h2
     ·obtain⟨i,hi,hni2⟩:∃i:Nat,i≤(logB t).length∧(n:Int)=1+(P+(i:Int))%24:=by
       refine Classical.byContradiction fun hx=>hj fun i hi he=>hx ⟨i,hi,he⟩
      have hil:i<(logB t).length:=by
       rcases Nat.lt_or_ge i (logB t).length with h7|h7
       ·exact h7
       ·have:i=(logB t).length:=by omega
        subst this;exact absurd hni2 hni
      rcases r3 with⟨hk2,_,_⟩|⟨_,a1,_⟩
      ·omega
      ·rw[a1 n i hil hni2 _ (wX n (by omega)),List.getD,List.getElem?_eq_getElem hil]
       exact zlo hg _ _ (List.getElem_mem hil)
  refine .inl ⟨without hno,?_⟩;rcases Nat.lt_or_ge k (commitS P U t).length with h7|h7
  ·exact h7
  ·exfalso
   rcases r3 with⟨hk2,_,_⟩|⟨hk1,a1,a2⟩
   ·omega
   ·obtain⟨n,hn1,hn,hni,eX,eD⟩:=mixAt _ (Nat.le_refl _)
    rcases a2 n hni _ (wX n (by omega)) with⟨h8,_⟩|h8
    ·omega
    ·exact hlast ⟨hk1,n,hn1,by omega,hni,h8⟩
theorem zy9 {f:Int→Option ByteArray}{n b:Nat}{s:ByteArray}(hb:b<n)(h:f b=some s):((b:Int),s)∈asN f n:=by
 induction n with
 |zero=>omega
 |succ n ih=>
  rw[zev];by_cases e:b=n
  ·subst e
   refine List.mem_append.2 (.inr ?_);simp[zt5,h]
  ·exact List.mem_append.2 (.inl (ih (by omega)))
theorem zqh {X:Dk}{P N:Int}(hg:za1 X=true)(hw:X.wr=[])(h0:zal X 0=encT (zbo P N))(hm:goodM (zbo P N)=0)(hl:∀n:Nat,1≤n→n≤24→NoEnd N (zal X n)):Tells X [] N P 0:=by
 have hs:zao X=zbo P N:=by rw[zao,h0,zjm hm]
 obtain⟨_,p1,p2⟩:=zsr hm
 have hE:scanE X=0:=by
  have e1:readE X 0=0:=zfh hg (n:=0) (by omega);rw[scanE,e1,hs,h0,zjm hm,if_neg (by simp),if_neg (by simp[zbo])]
 have hL:zbv X=([],0):=by
  rw[zbv,hs];show scanP (logOf X P) 0 N []=_;rw[scanP];split
  ·have hr:zex (logOf X P) N 0 (zds N)=none:=by
    refine zjn (N:=N) (fun i hi=>?_) (Int.le_refl _) 24 0 _ (by rw[za6];omega);rw[za6] at hi;rw[zio X P i hi];have e:1+(P+(i:Int))%24=((1+((P+(i:Int))%24).toNat:Nat):Int):=by omega
    rw[e];exact hl _ (by omega) (by omega)
   rw[hr]
  ·rfl
 refine⟨hw,hE,?_,?_,?_,?_,(fun t ht=>by cases ht),hl⟩
 ·rw[fndL,if_pos hE,hL]
 ·rw[fndN,if_pos hE,hL,hs];simp[zbo]
 ·rw[fndP,if_pos hE,hL,hs];simp[zbo];omega
 ·rw[(zi3 hE).1,hL];rfl
theorem zee {l:List Tx}{P N:Int}(h:checkE (newestL l) P N=0):zbp (newestL l) P N=putR (newestL l) (encT (zbo P N))∧goodM (zbo P N)=0:=by
 refine⟨by rw[zbp,if_pos h];rfl,?_⟩;by_cases hx:goodM (zbo P N)=0
 ·exact hx
 ·rw[checkE,if_pos hx] at h;exact absurd h hx
theorem Tells.check {D:Dk}{l:List Tx}{N P U:Int}(h:Tells D l N P U):checkE (newestL l) P N=0:=by
 have:=z1j h.tE (by rw[h.tL];exact h.goods)
 rwa [h.tL,h.tN,h.tP] at this
theorem zza {l:List Tx}{x:Int×ByteArray}(hx:x∈newestL l):0≤x.1∧x.1≤11∧newestF l x.1=some x.2:=by
 obtain⟨a,b,c⟩:=zof hx;exact⟨a,by omega,c⟩
theorem zqi {D:Dk}{l:List Tx}{N P U:Int}(h:Tells D l N P U){k:Nat}{X:Dk}(hX:Crashed (runK D ((zbp (newestL l) P N).take k)) X):
  ((Tells X l N P U∧k<(zbp (newestL l) P N).length)∨(Tells X [] N P 0∧∀x∈newestL l,zal X (25+x.1)=x.2))∧
  ∀b:Nat,b<12→zal X ((25+b:Nat):Int)=zal D ((25+b:Nat):Int)∨newestF l b=some (zal X ((25+b:Nat):Int)):=by
 obtain⟨hST,hm⟩:=zee h.check;have hS:za9 (encT (zbo P N))=true:=by have:=ze1 hm;simp[za9];omega
 have hH:=ze2 h.goods;have hgD:=h.good;rw[hST] at hX⊢;generalize hSe:encT (zbo P N)=S at *;obtain⟨r1,r2,r3⟩:=zss hH hS hgD h.clean (fun n hn=>zfi hgD h.clean (by omega)) k;have hl13:=zen hH;have hlp:(putR (newestL l) S).length≤15:=by simp[putR];omega
 refine⟨?_,fun b hb=>?_⟩
 ·have lX:∀n:Nat,1≤n→n≤24→zal X n=zal D n:=fun n h1 h2=>r2 n h1 (by omega) _ (hX.at_ n (by omega))
  by_cases hc:k<(putR (newestL l) S).length∧zal X 0=zal D 0
  ·refine .inl ⟨h.congr hX.good hX.clean (fun n hn=>?_),hc.1⟩
   by_cases e:n=0
   ·subst e;exact hc.2
   ·exact lX n (by omega) hn
  ·have h0:zal X 0∈ways _ 0:=hX.at_ 0 (by omega)
   refine .inr ?_;rcases r3 with⟨h1,h2⟩|⟨h1,h2⟩
   ·exact absurd ⟨h1,h2 _ h0⟩ hc
   ·rcases h1 _ h0 with h3|h3
    ·exact absurd h3 hc
    ·refine⟨zqh hX.good hX.clean (h3.trans hSe.symm) hm (fun n h4 h5=>by rw[lX n h4 h5];exact h.late n h4 h5),fun x hx=>?_⟩
     have hb:=hH.2.1 x hx;have:=h2 x hx _ (hX.at_ (25+x.1).toNat (by omega))
     rwa [show(((25+x.1).toNat:Nat):Int)=25+x.1 from by omega] at this
 ·have ha:=zll (n:=25+b) (by omega) (S:=fun s=>s=zal D ((25+b:Nat):Int)∨newestF l b=some s) ((putR (newestL l) S).take k) D (fun s hs=>zlk hH hS s (List.mem_of_mem_take hs)) hgD (by rw[h.clean,List.length_take];simp;omega) (fun s hs=>.inl (zfi hgD h.clean (by omega) s hs)) (fun s hs h2 he=>?_)
  ·exact ha _ (hX.at_ _ (by omega))
  ·right
   rcases List.mem_append.1 (List.mem_of_mem_take hs) with h3|h3
   ·rw[homeS] at h3
    rcases List.mem_append.1 h3 with h4|h4
    ·obtain⟨x,hx,rfl⟩:=List.mem_map.1 h4
     have he':25+x.1=((25+b:Nat):Int):=he;have hb2:=zza hx;have:x.1=(b:Int):=by omega
     rw[←this];exact hb2.2.2
    ·split at h4
     ·cases h4
     ·rw[List.mem_singleton.1 h4] at h2;exact absurd rfl h2
   ·rcases List.mem_cons.1 h3 with rfl|h4
    ·have he':(0:Int)=((25+b:Nat):Int):=he
     omega
    ·rw[List.mem_singleton.1 h4] at h2;exact absurd rfl h2
theorem zng {D:Dk}{l:List Tx}{N P U:Int}(h:Tells D l N P U):Tells (runK D (zbp (newestL l) P N)) [] N P 0∧∀b:Nat,b<12→zal (runK D (zbp (newestL l) P N)) ((25+b:Nat):Int)=(newestF l b).getD (zal D ((25+b:Nat):Int)):=by
 obtain⟨hST,hm⟩:=zee h.check;have hS:za9 (encT (zbo P N))=true:=by have:=ze1 hm;simp[za9];omega
 have hH:=ze2 h.goods;have hgD:=h.good;have hl13:=zen hH;have hg:=(zcn (putR (newestL l) (encT (zbo P N))) D (zlk hH hS) hgD (by rw[h.clean];simp[putR];omega)).1
 have hw:(runK D (putR (newestL l) (encT (zbo P N)))).wr=[]:=by
  have e:putR (newestL l) (encT (zbo P N))=(homeS (newestL l)++[zbh 0 (encT (zbo P N))])++[zby]:=by simp[putR]
  rw[e,zca];refine zon (zcn _ D (fun s hs=>zlk hH hS s ?_) hgD (by rw[h.clean];simp;omega)).1;rw[e];exact List.mem_append.2 (.inl hs)
 have hc:=zqi h (k:=(zbp (newestL l) P N).length) (X:=runK D (zbp (newestL l) P N)) (by
  rw[List.take_length,hST]
  exact zj4 hg hw)
 rcases hc.1 with⟨_,h2⟩|⟨h1,h2⟩
 ·omega
 refine⟨h1,fun b hb=>?_⟩
 cases hn:newestF l b with
 |some s=>
  have hx:((b:Int),s)∈newestL l:=by
   rw[newestL];exact zy9 (by omega) hn
  have:=h2 _ hx
  simpa using this
 |none=>
  rcases hc.2 b hb with e|e
  ·exact e
  ·rw[hn] at e;cases e
theorem zql {t:Tx}(h:zba t=true):zba (zd3 t)=true:=by
 have hi:=(za7 t).1 h;have hp:=zeo h;exact zos (t:=zd3 t) hi.1 hi.2.1.1 rfl hi.2.2.1.1 rfl hi.2.2.1.2.2 ⟨fun x hx=>⟨(fun h2=>by cases h2),(hp.1 x hx).2⟩,(fun x hx=>by cases hx)⟩ ⟨rfl,rfl,rfl⟩
theorem z1q {l:List (Int×ByteArray)}(h:zbg (blksOf l)=true){x:Int×ByteArray}(hx:x∈l):zas x.1 l=some x.2:=by
 have u:Up (·.1) l:=(zgc _ _).1 ((za8 _).1 h).2;have hf:=zrz u x.1;have hm:x∈l.filter (fun y=>decide (y.1=x.1)):=List.mem_filter.2 ⟨hx,by simp⟩;rw[hf] at hm
 cases ht:zas x.1 l with
 |none=>rw[ht] at hm;simp at hm
 |some s=>
  rw[ht] at hm;simp at hm;rw[hm]
theorem z3j {l:List (Int×ByteArray)}{b:Int}{s:ByteArray}(h:zas b l=some s):(b,s)∈l:=by
 induction l with
 |nil=>cases h
 |cons x r ih=>
  rw[zas] at h;split at h
  ·rename_i e
   cases h;rw[←e];simp
  ·exact List.mem_cons_of_mem _ (ih h)
theorem zv8 {t:Tx}(hg:zba t=true):zoo t.data:=by
 have hi:=(za7 t).1 hg;exact⟨zfv hi.2.2.1.2.1,zhg hg,(zaw hg).2.1⟩
section
variable {D:Dk} {l:List Tx} {N P U:Int} {t:Tx}
theorem zsz (hS:sealE P U t=0):∀s∈commitS P U t,s.1≠2→∀b:Nat,b<12→s.2.1=((25+b:Nat):Int)→zas b t.data=some s.2.2:=by
 obtain⟨e,hg,hP,_,hU⟩:=zb2 hS;have hi:=(za7 t).1 hg;intro s hs h2 b hb he;rw[e] at hs;rcases List.mem_append.1 hs with h1|h1
 ·rcases List.mem_append.1 h1 with h1|h1
  ·rcases List.mem_append.1 h1 with h1|h1
   ·rw[homeS] at h1
    rcases List.mem_append.1 h1 with h3|h3
    ·obtain⟨x,hx,rfl⟩:=List.mem_map.1 h3
     have he':25+x.1=((25+b:Nat):Int):=he;have:x.1=(b:Int):=by omega
     rw[←this];exact z1q hi.2.2.1.2.1 hx
    ·split at h3
     ·cases h3
     ·rw[List.mem_singleton.1 h3] at h2;exact absurd rfl h2
   ·obtain⟨i,hi1,hi2,rfl⟩:=zi2 h1
    rw[zbl] at hi2;have he':1+(zbt P ((logB t).length+1)).getD i 0=((25+b:Nat):Int):=he;rw[zdb _ _ _ hi2] at he';omega
  ·rw[sealF] at h1
   split at h1
   ·rw[List.mem_singleton.1 h1] at h2;exact absurd rfl h2
   ·cases h1
 ·rcases List.mem_cons.1 h1 with rfl|h3
  ·have he':1+(P+((logB t).length:Int))%24=((25+b:Nat):Int):=he
   omega
  ·rw[List.mem_singleton.1 h3] at h2;exact absurd rfl h2
theorem znl (h:Tells D l N P U)(hS:sealE P U t=0){k:Nat}{X:Dk}(hX:Crashed (runK D ((commitS P U t).take k)) X):
  (∀b:Nat,b<12→zal X ((25+b:Nat):Int)=zal D ((25+b:Nat):Int)∨zas b t.data=some (zal X ((25+b:Nat):Int)))∧
  ((commitS P U t).length≤k+1→∀b:Nat,b<12→zal X ((25+b:Nat):Int)=(zas b t.data).getD (zal D ((25+b:Nat):Int))):=by
 have hgD:=h.good;obtain⟨hok,hlen⟩:=zhh hS;obtain⟨e,hg,hP,_,hU⟩:=zb2 hS;have hi:=(za7 t).1 hg
 have first:∀b:Nat,b<12→zal X ((25+b:Nat):Int)=zal D ((25+b:Nat):Int)∨zas b t.data=some (zal X ((25+b:Nat):Int)):=by
  intro b hb;have ha:=zll (n:=25+b) (by omega) (S:=fun s=>s=zal D ((25+b:Nat):Int)∨zas b t.data=some s) ((commitS P U t).take k) D (fun s hs=>hok s (List.mem_of_mem_take hs)) hgD (by rw[h.clean,List.length_take];simp;omega) (fun s hs=>.inl (zfi hgD h.clean (by omega) s hs)) (fun s hs h2 he=>.inr (zsz hS s (List.mem_of_mem_take hs) h2 b hb he));exact ha _ (hX.at_ _ (by omega))
 refine⟨first,fun hk b hb=>?_⟩
 cases ht:zas b t.data with
 |none=>
  rcases first b hb with e1|e1
  ·exact e1
  ·rw[ht] at e1;cases e1
 |some s=>
  have hH:=zv8 hg;obtain⟨a1,a2,a3,a4⟩:=zgv hH hgD h.clean (fun n hn=>zfi hgD h.clean (by omega));have hmem:=z3j ht;have h4:=a4 _ hmem;have hidx:(25+(b:Int)).toNat=25+b:=by omega
  rw[hidx] at h4;have hl13:=zen hH;obtain⟨rest,hrest⟩:∃rest,commitS P U t=homeS t.data++rest:=⟨_,by rw[e,sealA,List.append_assoc,List.append_assoc]⟩
  have hr2:2≤rest.length:=by
   have:(commitS P U t).length=(homeS t.data).length+rest.length:=by rw[hrest,List.length_append]
   rw[e] at this;simp[sealA] at this;omega
  have htk:(commitS P U t).take k=homeS t.data++rest.take (k - (homeS t.data).length):=by
   rw[hrest,List.take_append,List.take_of_length_le];rw[hrest,List.length_append] at hk;omega
  have hlr:rest.length≤50:=by rw[hrest,List.length_append] at hlen;omega
  rw[htk,zca] at hX
  have hno:∀s'∈rest.take (k - (homeS t.data).length),s'.1≠2→s'.2.1≠((25+b:Nat):Int):=by
   intro s' hs' _ he
   have hs'':s'∈sealA P t++sealF t++[zgw P t,zby]:=by
    rw[←e,hrest];exact List.mem_append.2 (.inr (List.mem_of_mem_take hs'))
   have hr:s'∈putS (zbt P ((logB t).length+1)) (logB t)++(sealF t++[zgw P t,zby]):=by
    have e2:homeS t.data++rest=homeS t.data++(putS (zbt P ((logB t).length+1)) (logB t)++(sealF t++[zgw P t,zby])):=by
     rw[←hrest,e,sealA,List.append_assoc,List.append_assoc]
    rw[←List.append_cancel_left e2];exact List.mem_of_mem_take hs'
   rcases List.mem_append.1 hr with h1|h1
   ·obtain⟨i,hi1,hi2,rfl⟩:=zi2 h1
    rw[zbl] at hi2;have he':1+(zbt P ((logB t).length+1)).getD i 0=((25+b:Nat):Int):=he;rw[zdb _ _ _ hi2] at he';omega
   ·rcases List.mem_append.1 h1 with h3|h3
    ·rw[sealF] at h3
     split at h3
     ·rename_i hk2
      rw[List.mem_singleton.1 h3] at he;have he':(0:Int)=((25+b:Nat):Int):=he;omega
     ·cases h3
    ·rcases List.mem_cons.1 h3 with rfl|h5
     ·have he':1+(P+((logB t).length:Int))%24=((25+b:Nat):Int):=he
      omega
     ·rw[List.mem_singleton.1 h5] at he
      have he':(0:Int)=((25+b:Nat):Int):=he;omega
  have hon:=zhe (n:=25+b) (by omega) (rest.take (k - (homeS t.data).length)) (runK D (homeS t.data)) (fun s' hs'=>hok s' (by rw[hrest];exact List.mem_append.2 (.inr (List.mem_of_mem_take hs')))) a1 (by rw[List.length_take];omega) h4 hno;exact hon _ (hX.at_ _ (by omega))
theorem zze (h:Tells D l N P U)(hN:N<2147483646)(hq:t.seq=N)(hS:sealE P U t=0):
  Tells (runK D (commitS P U t)) (l++[zd3 t]) (N+1) (zch P U t) (zcc P U t)∧∀b:Nat,b<12→zal (runK D (commitS P U t)) ((25+b:Nat):Int)=(zas b t.data).getD (zal D ((25+b:Nat):Int)):=by
 obtain⟨hok,hlen⟩:=zhh hS;obtain⟨e,hg,_,_,_⟩:=zb2 hS;have hgD:=h.good;have hgr:=(zcn (commitS P U t) D hok hgD (by rw[h.clean];simp;omega)).1
 have hw:(runK D (commitS P U t)).wr=[]:=by
  have e2:commitS P U t=(sealA P t++sealF t++[zgw P t])++[zby]:=by rw[e];simp
  rw[e2,zca]
  have hl:(sealA P t++sealF t++[zgw P t]).length≤50:=by
   have:(commitS P U t).length=(sealA P t++sealF t++[zgw P t]).length+1:=by rw[e2,List.length_append];rfl
   omega
  exact zon (zcn _ D (fun s hs=>hok s (by rw[e2];exact List.mem_append.2 (.inl hs))) hgD (by rw[h.clean];simp only[List.length_nil];omega)).1
 have hX:Crashed (runK D ((commitS P U t).take (commitS P U t).length)) (runK D (commitS P U t)):=by
  rw[List.take_length];exact zj4 hgr hw
 refine⟨?_,(znl h hS hX).2 (by omega)⟩;rcases zul h hN hq hS (zql hg) (Nat.le_refl _) hX with⟨_,h2⟩|⟨h1,_⟩
 ·omega
 ·exact h1
end
theorem zqn (l:List Tx)(b:Int):newestF (l.map zd3) b=newestF l b:=by
 unfold newestF;rw[List.foldl_map];rfl
theorem ze3 (l:List Tx):newestL (l.map zd3)=newestL l:=by
 rw[newestL,newestL];exact zxq fun j _=>zqn l j
def zuo (t:Tx):Bool:=zhx t|| !zez t
structure Pow (j:Jn):Prop where
 up:j.down=false
 good:zba j.now=true
 seq:j.now.seq≤j.acts+1
 fL:j.fL=[]
 fN:j.fN=0
 room:zuo j.now=true→zes (zb0 j.now)≤24 - j.ru
structure Dn (j:Jn)(N:Int):Prop where
 off:j.down=true
 now:j.now=zds 0
 sealed:j.sealed=zds 0
 done:j.done=[]
 ru:j.ru=0
 rh:j.rh=0
 last0:0≤j.last
 lo:j.last+1≤N
 hi:N≤j.last+2
 seq:N≤j.acts+1
inductive Md (j:Jn)(D:Dk):Prop
 |idle (p:Pow j) (hs:j.steps=[]) (hz:j.sealed=zds 0) (hD:j.disk=D) (ht:Tells D (j.done.map zd3) (j.last+1) j.rh j.ru) (hq:j.now.seq=j.last+1)
 |commit (P U:Int) (k:Nat) (p:Pow j) (hw:j.work=6) (hk:k<(commitS P U j.sealed).length) (hs:j.steps=(commitS P U j.sealed).drop k) (hD:j.disk=runK D ((commitS P U j.sealed).take k)) (ht:Tells D (j.done.map zd3) (j.last+1) P U)
   (he:sealE P U j.sealed=0) (hse:j.sealed.seq=j.last+1) (hrh:j.rh=zch P U j.sealed) (hru:j.ru=zcc P U j.sealed) (hq:j.now.seq=j.last+2) (hN:j.last+1<2147483646)
 |check (k:Nat) (p:Pow j) (hw:j.work=7) (hz:j.sealed=zds 0) (hk:k<(zbp (newestL j.done) j.rh (j.last+1)).length) (hs:j.steps=(zbp (newestL j.done) j.rh (j.last+1)).drop k) (hD:j.disk=runK D ((zbp (newestL j.done) j.rh (j.last+1)).take k)) (ht:Tells D (j.done.map zd3) (j.last+1) j.rh j.ru) (hq:j.now.seq=j.last+1)
 |off (l:List Tx) (N P U:Int) (p:Dn j N) (hs:j.steps=[]) (hf:j.fL=[]∧j.fN=0) (hD:j.disk=D) (ht:Tells D l N P U)
 |back (U:Int) (k:Nat) (p:Dn j j.fN) (hw:j.work=11) (hk:k<(zbp (newestL j.fL) j.fP j.fN).length) (hs:j.steps=(zbp (newestL j.fL) j.fP j.fN).drop k) (hD:j.disk=runK D ((zbp (newestL j.fL) j.fP j.fN).take k)) (ht:Tells D j.fL j.fN j.fP U)
def zrr (D:Dk)(b:Nat):ByteArray:=(newestF (fndL D) b).getD (zal D ((25+b:Nat):Int))
inductive Left (j:Jn)(D X:Dk):Prop
 |all (hN:fndN X=fndN D) (hL:fndL X=fndL D∨fndL X=[]) (he:∀b:Nat,b<12→zrr X b=zrr D b) (hc:j.down=false→j.sealed=zds 0)
 |without (hu:j.down=false) (hse:j.sealed.seq=j.last+1) (hN:fndN X=fndN D) (hL:fndL X=fndL D) (hh:∀b:Nat,b<12→zal X ((25+b:Nat):Int)=zal D ((25+b:Nat):Int)∨zas b j.sealed.data=some (zal X ((25+b:Nat):Int)))
 |whole (hu:j.down=false) (hse:j.sealed.seq=j.last+1) (hN:fndN X=fndN D+1) (hL:fndL X=fndL D++[zd3 j.sealed]) (hh:∀b:Nat,b<12→zal X ((25+b:Nat):Int)=(zas b j.sealed.data).getD (zal D ((25+b:Nat):Int)))
inductive Trans (j:Jn)(D:Dk)(a:Ac):Jn→Rp→Dk→Prop
 |plain {j':Jn} {r:Rp} (m:Move j a j' r) (hp:r.code=0→a.kind≠10∧(a.kind=8→∃s q,j.steps=s::q∧q≠[]∧r=zav 0∧j'={j with disk:=zbf j.disk s,steps:=q})):Trans j D a j' r D
 |through (Y:Dk) (hk:a.kind=8) (hu:j.down=false) (hse:j.sealed.seq=j.last+1) (hg:zba j.sealed=true) (hN:fndN Y=fndN D+1) (hL:fndL Y=fndL D++[zd3 j.sealed]) (hh:∀b:Nat,b<12→zal Y ((25+b:Nat):Int)=(zas b j.sealed.data).getD (zal D ((25+b:Nat):Int))):
   Trans j D a {j with disk:=Y,steps:=[],sealed:=zds 0,done:=j.done++[j.sealed],last:=j.sealed.seq} ⟨0,j.sealed.seq,⟨#[]⟩⟩ Y
 |home (Y:Dk) (hk:a.kind=8) (hu:j.down=false) (hz:j.sealed=zds 0) (hN:fndN Y=fndN D) (hL:fndL Y=[]) (hh:∀b:Nat,b<12→zal Y ((25+b:Nat):Int)=zrr D b):
   Trans j D a {j with disk:=Y,steps:=[],done:=[],ru:=0} (zav 0) Y
 |on (Y:Dk) (hk:a.kind=8) (hd:j.down=true) (hfN:j.fN=fndN D) (hfL:j.fL=fndL D) (hN:fndN Y=fndN D) (hL:fndL Y=[]) (hh:∀b:Nat,b<12→zal Y ((25+b:Nat):Int)=zrr D b):
   Trans j D a (zkx {j with disk:=Y,steps:=[]}) (zav 0) Y
 |crash (hk:a.kind=10) (hn:0≤a.n) (X:Dk) (hX:X=crashK j.disk a.n) (left:Left j D X):
   Trans j D a ⟨j.acts,X,0,0,j.last,true,fun _=>0,fun _=>0,zds 0,zds 0,[],[],0,0,0,[]⟩ (zav 0) X
section
variable {j:Jn} {D:Dk}
theorem Md.disk (h:Md j D):za1 j.disk=true:=by
 cases h with
 |idle p hs hz hD ht hq=>rw[hD];exact ht.good
 |commit P U k p hw hk hs hD ht he hse hrh hru hq hN=>
  rw[hD];obtain⟨hok,hlen⟩:=zhh he;exact(zcn _ D (fun s hs=>hok s (List.mem_of_mem_take hs)) ht.good (by rw[ht.clean,List.length_take];simp;omega)).1
 |check k p hw hz hk hs hD ht hq=>
  rw[hD];have hc:=ht.check;rw[ze3] at hc;obtain⟨hST,hm⟩:=zee hc;have hS:za9 (encT (zbo j.rh (j.last+1)))=true:=by have:=ze1 hm;simp[za9];omega
  have hH:zoo (newestL j.done):=by have:=ze2 ht.goods;rwa [ze3] at this
  have hl13:=zen hH;rw[hST];exact(zcn _ D (fun s hs=>zlk hH hS s (List.mem_of_mem_take hs)) ht.good (by rw[ht.clean,List.length_take];simp[putR];omega)).1
 |off l N P U p hs hf hD ht=>rw[hD];exact ht.good
 |back U k p hw hk hs hD ht=>
  rw[hD];obtain⟨hST,hm⟩:=zee ht.check;have hS:za9 (encT (zbo j.fP j.fN))=true:=by have:=ze1 hm;simp[za9];omega
  have hH:=ze2 ht.goods;have hl13:=zen hH;rw[hST];exact(zcn _ D (fun s hs=>zlk hH hS s (List.mem_of_mem_take hs)) ht.good (by rw[ht.clean,List.length_take];simp[putR];omega)).1
theorem Md.last0 (h:Md j D):0≤j.last:=by
 cases h with
 |idle p hs hz hD ht hq=>have:=ht.range.1.1;omega
 |commit P U k p hw hk hs hD ht he hse hrh hru hq hN=>have:=ht.range.1.1;omega
 |check k p hw hz hk hs hD ht hq=>have:=ht.range.1.1;omega
 |off l N P U p hs hf hD ht=>exact p.last0
 |back U k p hw hk hs hD ht=>exact p.last0
theorem Md.bump (h:Md j D){x:Int}(hx:j.acts≤x):Md {j with acts:=x} D:=by
 have pw:Pow j→Pow {j with acts:=x}:=fun p=>⟨p.up,p.good,by have:=p.seq;show j.now.seq≤x+1;omega,p.fL,p.fN,p.room⟩
 have dn:∀N,Dn j N→Dn {j with acts:=x} N:=fun N p=>⟨p.off,p.now,p.sealed,p.done,p.ru,p.rh,p.last0,p.lo,p.hi,by have:=p.seq;show N≤x+1;omega⟩
 cases h with
 |idle p hs hz hD ht hq=>exact .idle (pw p) hs hz hD ht hq
 |commit P U k p hw hk hs hD ht he hse hrh hru hq hN=>exact .commit P U k (pw p) hw hk hs hD ht he hse hrh hru hq hN
 |check k p hw hz hk hs hD ht hq=>exact .check k (pw p) hw hz hk hs hD ht hq
 |off l N P U p hs hf hD ht=>exact .off l N P U (dn _ p) hs hf hD ht
 |back U k p hw hk hs hD ht=>exact .back U k (dn _ p) hw hk hs hD ht
theorem Md.now (h:Md j D)(hu:j.down=false){t:Tx}(hq:t.seq=j.now.seq)(hg:zba t=true)(hr:zuo t=true→zes (zb0 t)≤24 - j.ru)(f g:Nat→Int):Md {j with role:=f,freed:=g,now:=t} D:=by
 have pw:Pow j→Pow {j with role:=f,freed:=g,now:=t}:=fun p=>⟨p.up,hg,by have:=p.seq;show t.seq≤j.acts+1;omega,p.fL,p.fN,hr⟩
 cases h with
 |idle p hs hz hD ht hq2=>exact .idle (pw p) hs hz hD ht (hq.trans hq2)
 |commit P U k p hw hk hs hD ht he hse hrh hru hq2 hN=>exact .commit P U k (pw p) hw hk hs hD ht he hse hrh hru (hq.trans hq2) hN
 |check k p hw hz hk hs hD ht hq2=>exact .check k (pw p) hw hz hk hs hD ht (hq.trans hq2)
 |off l N P U p hs hf hD ht=>rw[p.off] at hu;cases hu
 |back U k p hw hk hs hD ht=>rw[p.off] at hu;cases hu
theorem Md.pow (h:Md j D)(hu:j.down=false):Pow j:=by
 cases h with
 |idle p hs hz hD ht hq2=>exact p
 |commit P U k p hw hk hs hD ht he hse hrh hru hq2 hN=>exact p
 |check k p hw hz hk hs hD ht hq2=>exact p
 |off l N P U p hs hf hD ht=>rw[p.off] at hu;cases hu
 |back U k p hw hk hs hD ht=>rw[p.off] at hu;cases hu
theorem zfj {l:List St}{k:Nat}{s:St}{r:List St}(h:s::r=l.drop k):l[k]?=some s∧r=l.drop (k+1)∧k<l.length:=by
 have hk:k<l.length:=by
  rcases Nat.lt_or_ge k l.length with h1|h1
  ·exact h1
  ·rw[List.drop_of_length_le h1] at h;cases h
 rw[List.drop_eq_getElem_cons hk] at h
 injection h with h1 h2
 exact⟨by rw[h1];exact List.getElem?_eq_getElem hk,h2,hk⟩
theorem Md.step (h:Md j D){s:St}{r:List St}(hs:j.steps=s::r)(hr:r≠[]):Md {j with disk:=zbf j.disk s,steps:=r} D:=by
 have pw:Pow j→Pow {j with disk:=zbf j.disk s,steps:=r}:=fun p=>⟨p.up,p.good,p.seq,p.fL,p.fN,p.room⟩
 have more:∀(S:List St) (k:Nat),s::r=S.drop k→k+1<S.length:=by
  intro S k e;obtain⟨_,e2,_⟩:=zfj e;rcases Nat.lt_or_ge (k+1) S.length with h1|h1
  ·exact h1
  ·rw[List.drop_of_length_le h1] at e2;exact absurd e2 hr
 cases h with
 |idle p hs2 hz hD ht hq=>rw[hs2] at hs;cases hs
 |commit P U k p hw hk hs2 hD ht he hse hrh hru hq hN=>
  rw[hs] at hs2;obtain⟨e1,e2,_⟩:=zfj hs2;exact .commit P U (k+1) (pw p) hw (more _ _ hs2) e2 (by show zbf j.disk s=_;rw[zir e1,hD]) ht he hse hrh hru hq hN
 |check k p hw hz hk hs2 hD ht hq=>
  rw[hs] at hs2;obtain⟨e1,e2,_⟩:=zfj hs2;exact .check (k+1) (pw p) hw hz (more _ _ hs2) e2 (by show zbf j.disk s=_;rw[zir e1,hD]) ht hq
 |off l N P U p hs2 hf hD ht=>rw[hs2] at hs;cases hs
 |back U k p hw hk hs2 hD ht=>
  rw[hs] at hs2;obtain⟨e1,e2,_⟩:=zfj hs2;exact .back U (k+1) ⟨p.off,p.now,p.sealed,p.done,p.ru,p.rh,p.last0,p.lo,p.hi,p.seq⟩ hw (more _ _ hs2) e2 (by show zbf j.disk s=_;rw[zir e1,hD]) ht
theorem Md.crash (h:Md j D){q:Int}(hq0:0≤q):∃l N P U,Tells (crashK j.disk q) l N P U∧j.last+1≤N∧N≤j.last+2∧N≤j.acts+1∧Left j D (crashK j.disk q):=by
 obtain⟨_,hX⟩:=zv5 h.disk hq0;generalize crashK j.disk q=X at *
 have effs:∀{l:List Tx} {N P U:Int} {D X:Dk},Tells D l N P U→Tells X l N P U→(∀n:Nat,n<37→zal X n=zal D n)→∀b:Nat,b<12→zrr X b=zrr D b:=by
  intro l N P U D X h1 h2 h3 b hb;rw[zrr,zrr,h1.tL,h2.tL,h3 (25+b) (by omega)]
 have effc:∀{l:List Tx} {N P U:Int} {k:Nat} {D X:Dk},Tells D l N P U→Crashed (runK D ((zbp (newestL l) P N).take k)) X→∃l' U',Tells X l' N P U'∧(fndL X=fndL D∨fndL X=[])∧∀b:Nat,b<12→zrr X b=zrr D b:=by
  intro l N P U k D X h1 h2;obtain⟨c1,c2⟩:=zqi h1 h2;rcases c1 with⟨c1,_⟩|⟨c1,c3⟩
  ·refine⟨l,U,c1,.inl (c1.tL.trans h1.tL.symm),fun b hb=>?_⟩
   rw[zrr,zrr,c1.tL,h1.tL];rcases c2 b hb with e|e
   ·rw[e]
   ·rw[e];rfl
  ·refine⟨[],0,c1,.inr c1.tL,fun b hb=>?_⟩
   rw[zrr,zrr,c1.tL,h1.tL];show zal X ((25+b:Nat):Int)=_
   cases hn:newestF l b with
   |some s=>
    have:=c3 _ (zy9 (n:=12) (by omega) hn)
    simpa using this
   |none=>
    rcases c2 b hb with e|e
    ·exact e
    ·rw[hn] at e;cases e
 cases h with
 |idle p hs hz hD ht hq=>
  rw[hD] at hX;obtain⟨h1,h2⟩:=ht.still hX;have:=p.seq;exact⟨_,_,_,_,h1,by omega,by omega,by omega,.all (h1.tN.trans ht.tN.symm) (.inl (h1.tL.trans ht.tL.symm)) (effs ht h1 h2) (fun _=>hz)⟩
 |commit P U k p hw hk hs hD ht he hse hrh hru hq hN=>
  rw[hD] at hX;have hg:=(zb2 he).2.1;have hh:=znl ht he hX;have:=p.seq;rcases zul ht hN hse he (zql hg) (Nat.le_of_lt hk) hX with⟨h1,_⟩|⟨h1,h2⟩
  ·exact⟨_,_,_,_,h1,by omega,by omega,by omega,.without p.up hse (h1.tN.trans ht.tN.symm) (h1.tL.trans ht.tL.symm) hh.1⟩
  ·exact⟨_,_,_,_,h1,by omega,by omega,by omega,.whole p.up hse (by rw[h1.tN,ht.tN]) (by rw[h1.tL,ht.tL]) (hh.2 h2)⟩
 |check k p hw hz hk hs hD ht hq=>
  rw[hD,←ze3] at hX;obtain⟨l',U',h1,h2,h3⟩:=effc ht hX;have:=p.seq;exact⟨_,_,_,_,h1,by omega,by omega,by omega,.all (h1.tN.trans ht.tN.symm) h2 h3 (fun _=>hz)⟩
 |off l N P U p hs hf hD ht=>
  rw[hD] at hX;obtain⟨h1,h2⟩:=ht.still hX;exact⟨_,_,_,_,h1,p.lo,p.hi,p.seq,.all (h1.tN.trans ht.tN.symm) (.inl (h1.tL.trans ht.tL.symm)) (effs ht h1 h2) (fun _=>p.sealed)⟩
 |back U k p hw hk hs hD ht=>
  rw[hD] at hX;obtain⟨l',U',h1,h2,h3⟩:=effc ht hX;exact⟨_,_,_,_,h1,p.lo,p.hi,p.seq,.all (h1.tN.trans ht.tN.symm) h2 h3 (fun _=>p.sealed)⟩
end
section
variable (t:Tx) (h b n free:Int) (s:ByteArray)
theorem z1t:zct t 0 h b n free s=zbb t h n free:=by rw[zct,if_pos rfl]
theorem z1u:zci t 0 h b n free s=zau t h n free:=by rw[zci,if_pos rfl]
theorem z1v:zct t 1 h b n free s=changeE t h b s:=by rw[zct,if_neg (by decide),if_pos rfl]
theorem z1w:zci t 1 h b n free s=zaf t h b s:=by rw[zci,if_neg (by decide),if_pos rfl]
theorem z1x:zct t 2 h b n free s=fillE t h b s:=by rw[zct,if_neg (by decide),if_neg (by decide),if_pos rfl]
theorem z1y:zci t 2 h b n free s=zan t h b s:=by rw[zci,if_neg (by decide),if_neg (by decide),if_pos rfl]
theorem z1z:zct t 3 h b n free s=revokeE t h b:=by rw[zct,if_neg (by decide),if_neg (by decide),if_neg (by decide),if_pos rfl]
theorem z10:zci t 3 h b n free s=zag t h b:=by rw[zci,if_neg (by decide),if_neg (by decide),if_neg (by decide),if_pos rfl]
theorem z11:zct t 4 h b n free s=zc4 t h:=by rw[zct,if_neg (by decide),if_neg (by decide),if_neg (by decide),if_neg (by decide)]
theorem z12:zci t 4 h b n free s=zb3 t h:=by rw[zci,if_neg (by decide),if_neg (by decide),if_neg (by decide),if_neg (by decide)]
end
section
variable {j:Jn} {D:Dk} {a:Ac}
theorem zwa {t:Tx}{k h b n free:Int}{s:ByteArray}:(zci t k h b n free s).seq=t.seq:=by
 have hs:∀(h:Int) (x:Hd),(zh1 t h x).seq=t.seq:=fun h x=>by unfold zh1;split;rfl;split<;>rfl
 unfold zci;split
 ·rw[zau];split;exact hs _ _;rfl
 split
 ·rw[zaf];split;exact zi6 t h b;rfl
 split
 ·rw[zan];split<;>rfl
 split
 ·rw[zag];split;exact zi6 t h b;rfl
 ·rw[zb3];split;exact hs _ _;rfl
theorem Md.order (h:Md j D)(hu:j.down=false){k hh b n:Int}{s:ByteArray}(he:zct j.now k hh b n (24 - j.ru) s=0)(f g:Nat→Int):Md {j with role:=f,freed:=g,now:=zci j.now k hh b n (24 - j.ru) s} D:=by
 have p:=h.pow hu;obtain⟨h1,h2,h3⟩:=zqm (k:=k) (h:=hh) (b:=b) (n:=n) (free:=24 - j.ru) (s:=s) p.good;refine h.now hu zwa h1 (fun _=>?_) f g;by_cases hk:k=0
 ·exact h3 he hk
 ·have hbg:zuo j.now=true:=by
   have hon:(zei j.now hh).on=true:=by
    unfold zct at he;rw[if_neg hk] at he;split at he
    ·exact(zc2 (zls he).1).2.2.1
    split at he
    ·exact(zc2 (zzd he).1).2.2.1
    split at he
    ·exact(zc2 (zlt he).1).2.2.1
    ·unfold zc4 at he
     split at he
     ·cases he
     ·split at he
      ·cases he
      ·rename_i hx
       simp only[not_or,Bool.not_eq_false] at hx;exact hx.2.2
   have ho:zhx j.now=true:=by
    unfold zei at hon;unfold zhx;split at hon
    ·simp[hon]
    ·split at hon<;>simp[hon]
   rw[zuo,ho];rfl
  exact Int.le_trans (zzf (h2 hk)) (p.room hbg)
theorem zov {q:Int}(h1:1≤q)(h2:q≤2147483647):zba (zds q)=true:=by
 have e1:decide (1≤q)=true:=by simpa using h1
 have e2:decide (q≤2147483647)=true:=by simpa using h2
 show zba ⟨q,[],[],[],⟨false,0⟩,⟨false,0⟩,⟨false,0⟩⟩=true;unfold zba;simp only[e1,e2];rfl
theorem Md.move {j':Jn}{r:Rp}(h:Md j D)(m:Move j a j' r)(hc:a.kind=6→j.steps=[]→j.now.seq≤j.acts):∃D',Md j' D'∧Trans j D a j' r D':=by
 have plain0:∀{j':Jn} {r:Rp},Move j a j' r→a.kind≠10→a.kind≠8→Md j' D→∃D',Md j' D'∧Trans j D a j' r D':=fun m h10 h8 hm=>⟨D,hm,.plain m fun _=>⟨h10,fun e=>absurd e h8⟩⟩
 cases m with
 |no e he=>exact⟨D,h,.plain (.no e he) fun e0=>absurd e0 he⟩
 |read hd hk hb ht=>exact plain0 (.read hd hk hb ht) (by omega) (by omega) h
 |begin hd hk he=>exact plain0 (.begin hd hk he) (by omega) (by omega) (by have h1:=h.order hd (k:=0) (hh:=a.h) (b:=0) (n:=a.n) (s:=⟨#[]⟩) (by rw[z1t];exact he) j.role j.freed;rw[z1u] at h1;exact h1)
 |stop hd hk he=>exact plain0 (.stop hd hk he) (by omega) (by omega) (by have h1:=h.order hd (k:=4) (hh:=a.h) (b:=0) (n:=0) (s:=⟨#[]⟩) (by rw[z11];exact he) j.role j.freed;rw[z12] at h1;exact h1)
 |write hd hk he hr=>exact plain0 (.write hd hk he hr) (by omega) (by omega) (by have h1:=h.order hd (k:=1) (hh:=a.h) (b:=a.b) (n:=0) (s:=fitT a.text) (by rw[z1v];exact he) (upd j.role a.b 1) j.freed;rw[z1w] at h1;exact h1)
 |fill hd hk he hr hf=>exact plain0 (.fill hd hk he hr hf) (by omega) (by omega) (by have h1:=h.order hd (k:=2) (hh:=a.h) (b:=a.b) (n:=0) (s:=fitT a.text) (by rw[z1x];exact he) (upd j.role a.b 2) j.freed;rw[z1y] at h1;exact h1)
 |revoke hd hk he hr=>exact plain0 (.revoke hd hk he hr) (by omega) (by omega) (by have h1:=h.order hd (k:=3) (hh:=a.h) (b:=a.b) (n:=0) (s:=⟨#[]⟩) (by rw[z1z];exact he) (upd j.role a.b 0) (upd j.freed a.b (zag j.now a.h a.b).seq);rw[z10] at h1;exact h1)
 |commit hd hk hs ho hm hq he=>
  refine plain0 (.commit hd hk hs ho hm hq he) (by omega) (by omega) ?_
  cases h with
  |idle p hs2 hz hD ht hq2=>
   obtain⟨e,hg,_⟩:=zb2 he;have hlen:0<(commitS j.rh j.ru j.now).length:=by rw[e];simp only[List.length_append,List.length_cons,List.length_nil];omega
   have h1:=ht.range.1.1;have h3:=hc hk hs;refine .commit j.rh j.ru 0 ⟨p.up,zov (by omega) (by omega),?_,p.fL,p.fN,fun hb=>by cases hb⟩ rfl hlen rfl hD ht he hq2 rfl rfl ?_ ?_
   ·show j.now.seq+1≤j.acts+1;omega
   ·show j.now.seq+1=j.last+2;omega
   ·show j.last+1<2147483646;omega
  |commit P U k p hw hk2 hs2 hD ht he2 hse hrh hru hq2 hN=>
   rw[hs] at hs2;have:=congrArg List.length hs2;rw[List.length_drop] at this;simp at this;omega
  |check k p hw hz hk2 hs2 hD ht hq2=>
   rw[hs] at hs2;have:=congrArg List.length hs2;rw[List.length_drop] at this;simp at this;omega
  |off l N P U p hs2 hf hD ht=>rw[p.off] at hd;cases hd
  |back U k p hw hk2 hs2 hD ht=>rw[p.off] at hd;cases hd
 |check hd hk hs hn he=>
  refine plain0 (.check hd hk hs hn he) (by omega) (by omega) ?_
  cases h with
  |idle p hs2 hz hD ht hq2=>
   have hlen:0<(zbp (newestL j.done) j.rh (j.last+1)).length:=by rw[(zee he).1];simp[putR]
   exact .check 0 ⟨p.up,p.good,p.seq,p.fL,p.fN,p.room⟩ rfl hz hlen rfl hD ht hq2
  |commit P U k p hw hk2 hs2 hD ht he2 hse hrh hru hq2 hN=>
   rw[hs] at hs2;have:=congrArg List.length hs2;rw[List.length_drop] at this;simp at this;omega
  |check k p hw hz hk2 hs2 hD ht hq2=>
   rw[hs] at hs2;have:=congrArg List.length hs2;rw[List.length_drop] at this;simp at this;omega
  |off l N P U p hs2 hf hD ht=>rw[p.off] at hd;cases hd
  |back U k p hw hk2 hs2 hD ht=>rw[p.off] at hd;cases hd
 |step hk s q hs he hr=>exact⟨D,h.step hs hr,.plain (.step hk s q hs he hr) fun _=>⟨by omega,fun _=>⟨s,q,hs,hr,rfl,rfl⟩⟩⟩
 |last hk s hs he=>
  have fin:∀(S:List St) (k:Nat),[s]=S.drop k→zbf (runK D (S.take k)) s=runK D S:=by
   intro S k e;obtain⟨e1,e2,e3⟩:=zfj e;rw[←zir e1]
   have:S.length≤k+1:=by
    have:=congrArg List.length e2;rw[List.length_drop] at this;simp at this;omega
   rw[List.take_of_length_le this]
  cases h with
  |idle p hs2 hz hD ht hq2=>rw[hs2] at hs;cases hs
  |commit P U k p hw hk2 hs2 hD ht he2 hse hrh hru hq2 hN=>
   rw[hs] at hs2;have hY:zbf j.disk s=runK D (commitS P U j.sealed):=by rw[hD];exact fin _ _ hs2
   obtain⟨d1,d2⟩:=zze ht hN hse he2;have hg:=(zb2 he2).2.1;refine⟨runK D (commitS P U j.sealed),?_,?_⟩
   ·rw[zb6,if_pos hw,hY]
    refine .idle ⟨p.up,p.good,p.seq,p.fL,p.fN,p.room⟩ rfl rfl rfl ?_ ?_
    ·show Tells _ ((j.done++[j.sealed]).map zd3) (j.sealed.seq+1) j.rh j.ru
     rw[List.map_append,hrh,hru,hse];exact d1
    ·show j.now.seq=j.sealed.seq+1
     omega
   ·rw[zb6,if_pos hw,hY]
    exact .through _ hk p.up hse hg (by rw[d1.tN,ht.tN]) (by rw[d1.tL,ht.tL]) d2
  |check k p hw hz hk2 hs2 hD ht hq2=>
   rw[hs] at hs2;have hY:zbf j.disk s=runK D (zbp (newestL j.done) j.rh (j.last+1)):=by rw[hD];exact fin _ _ hs2
   obtain⟨d1,d2⟩:=zng ht;rw[ze3] at d1 d2;have hw6:¬j.work=6:=by omega
   refine⟨runK D (zbp (newestL j.done) j.rh (j.last+1)),?_,?_⟩
   ·rw[zb6,if_neg hw6,if_pos hw,hY]
    refine .idle ⟨p.up,p.good,p.seq,p.fL,p.fN,fun hb=>?_⟩ rfl hz rfl d1 hq2;have:=p.room hb;have h5:=ht.range.2.2.1;show zes (zb0 j.now)≤24 - 0;omega
   ·rw[zb6,if_neg hw6,if_pos hw,hY]
    exact .home _ hk p.up hz (by rw[d1.tN,ht.tN]) d1.tL (fun b hb=>by rw[d2 b hb,zrr,ht.tL])
  |off l N P U p hs2 hf hD ht=>rw[hs2] at hs;cases hs
  |back U k p hw hk2 hs2 hD ht=>
   rw[hs] at hs2;have hY:zbf j.disk s=runK D (zbp (newestL j.fL) j.fP j.fN):=by rw[hD];exact fin _ _ hs2
   obtain⟨d1,d2⟩:=zng ht;have hw6:¬j.work=6:=by omega
   have hw7:¬j.work=7:=by omega
   have hr:=ht.range;refine⟨runK D (zbp (newestL j.fL) j.fP j.fN),?_,?_⟩
   ·rw[zb6,if_neg hw6,if_neg hw7,if_pos hw,hY]
    have hsq:=p.seq;refine .idle ⟨rfl,zov hr.1.1 hr.1.2,hsq,rfl,rfl,fun hb=>by cases hb⟩ rfl rfl rfl ?_ ?_
    ·show Tells _ [] (j.fN - 1+1) j.fP 0
     rw[show j.fN - 1+1=j.fN from by omega];exact d1
    ·show j.fN=j.fN - 1+1
     omega
   ·rw[zb6,if_neg hw6,if_neg hw7,if_pos hw,hY]
    exact .on _ hk p.off ht.tN.symm ht.tL.symm (by rw[d1.tN,ht.tN]) d1.tL (fun b hb=>by rw[d2 b hb,zrr,ht.tL])
 |crash hk he=>
  have hn:0≤a.n:=by
   unfold crashE at he;split at he
   ·rename_i hx
    simp only[Bool.and_eq_true,decide_eq_true_eq] at hx;exact hx.2
   ·cases he
  obtain⟨l,N,P,U,ht,h1,h2,h3,left⟩:=h.crash hn;exact⟨_,.off l N P U ⟨rfl,rfl,rfl,rfl,rfl,rfl,h.last0,h1,h2,h3⟩ rfl ⟨rfl,rfl⟩ rfl ht,.crash hk hn _ rfl left⟩
 |back hk hd hs hE hc2=>
  refine plain0 (.back hk hd hs hE hc2) (by omega) (by omega) ?_
  cases h with
  |idle p hs2 hz hD ht hq2=>rw[p.up] at hd;cases hd
  |commit P U k p hw hk2 hs2 hD ht he2 hse hrh hru hq2 hN=>rw[p.up] at hd;cases hd
  |check k p hw hz hk2 hs2 hD ht hq2=>rw[p.up] at hd;cases hd
  |off l N P U p hs2 hf hD ht=>
   rw[←hD] at ht;have hlen:0<(zbp (newestL (fndL j.disk)) (fndP j.disk) (fndN j.disk)).length:=by rw[(zee hc2).1];simp[putR]
   refine .back U 0 ?_ rfl hlen rfl hD ?_
   ·show Dn _ (fndN j.disk)
    rw[ht.tN];exact⟨p.off,p.now,p.sealed,p.done,p.ru,p.rh,p.last0,p.lo,p.hi,p.seq⟩
   ·show Tells D (fndL j.disk) (fndN j.disk) (fndP j.disk) U
    rw[ht.tL,ht.tN,ht.tP,←hD];exact ht
  |back U k p hw hk2 hs2 hD ht=>
   rw[hs] at hs2;have:=congrArg List.length hs2;rw[List.length_drop] at this;simp at this;omega
end
theorem JAt.putActs {w:World}{B:Nat}{X:List Nat}{j:Jn}(h:JAt w B X j)(x:Int):JAt (w.setCell ⟨B,0,none⟩ (.int .i64 x)) B X {j with acts:=x}:=by
 obtain⟨hB,da,dc,db,dd,na,nc,nb,nd,ne,nf,sa,sc,sb,sd,se,sf,ca,cc,fa,fc,ta,tc,h1,h2⟩:=h;have e:Ext (zar w X) (zar (w.setCell ⟨B,0,none⟩ (.int .i64 x)) X):=Ext.butL ((ButL.refl X _ w).set (.inl hB) 0 (.int .i64 x));obtain⟨r1,r2,r3,r4,r5,r6,r7,r8,r9,r10⟩:=h2;have k0:=heap_setCell_same w B 0 _ _ (.int .i64 x) h1;exact⟨hB,da,dc,db,dd,na,nc,nb,nd,ne,nf,sa,sc,sb,sd,se,sf,ca,cc,fa,fc,ta,tc,k0.trans rfl,r1.ext e,r2.ext e,r3.ext e,r4.ext e,r5.ext e,r6.ext e,r7,r8,r9,r10⟩
theorem JAt.putDisk {w:World}{B:Nat}{X:List Nat}{j:Jn}(h:JAt w B X j){d:Dk}{ua:Option Addr}{uc:Nat}{ub:Option Addr}{ud:Nat}(hD:IsDk (zar w X) (.agg #[.slice ua d.safe.length uc,.slice ub d.wr.length ud]) d):JAt ((w.setCell ⟨B,1,none⟩ (.slice ua d.safe.length uc)).setCell ⟨B,2,none⟩ (.slice ub d.wr.length ud)) B X {j with disk:=d}:=by
 obtain⟨hB,da,dc,db,dd,na,nc,nb,nd,ne,nf,sa,sc,sb,sd,se,sf,ca,cc,fa,fc,ta,tc,h1,h2⟩:=h;have e:Ext (zar w X) (zar ((w.setCell ⟨B,1,none⟩ (.slice ua d.safe.length uc)).setCell ⟨B,2,none⟩ (.slice ub d.wr.length ud)) X):=Ext.butL (((ButL.refl X _ w).set (.inl hB) 1 (.slice ua d.safe.length uc)).set (.inl hB) 2 (.slice ub d.wr.length ud));obtain⟨r1,r2,r3,r4,r5,r6,r7,r8,r9,r10⟩:=h2;have k0:=heap_setCell_same w B 1 _ _ (.slice ua d.safe.length uc) h1;have k1:=heap_setCell_same (w.setCell ⟨B,1,none⟩ (.slice ua d.safe.length uc)) B 2 _ _ (.slice ub d.wr.length ud) k0;exact⟨hB,ua,uc,ub,ud,na,nc,nb,nd,ne,nf,sa,sc,sb,sd,se,sf,ca,cc,fa,fc,ta,tc,k1.trans rfl,hD.ext e,r2.ext e,r3.ext e,r4.ext e,r5.ext e,r6.ext e,r7,r8,r9,r10⟩
theorem JAt.putRing {w:World}{B:Nat}{X:List Nat}{j:Jn}(h:JAt w B X j)(x y:Int):JAt ((w.setCell ⟨B,3,none⟩ (.int .i64 x)).setCell ⟨B,4,none⟩ (.int .i64 y)) B X {j with rh:=x,ru:=y}:=by
 obtain⟨hB,da,dc,db,dd,na,nc,nb,nd,ne,nf,sa,sc,sb,sd,se,sf,ca,cc,fa,fc,ta,tc,h1,h2⟩:=h;have e:Ext (zar w X) (zar ((w.setCell ⟨B,3,none⟩ (.int .i64 x)).setCell ⟨B,4,none⟩ (.int .i64 y)) X):=Ext.butL (((ButL.refl X _ w).set (.inl hB) 3 (.int .i64 x)).set (.inl hB) 4 (.int .i64 y));obtain⟨r1,r2,r3,r4,r5,r6,r7,r8,r9,r10⟩:=h2;have k0:=heap_setCell_same w B 3 _ _ (.int .i64 x) h1;have k1:=heap_setCell_same (w.setCell ⟨B,3,none⟩ (.int .i64 x)) B 4 _ _ (.int .i64 y) k0;exact⟨hB,da,dc,db,dd,na,nc,nb,nd,ne,nf,sa,sc,sb,sd,se,sf,ca,cc,fa,fc,ta,tc,k1.trans rfl,r1.ext e,r2.ext e,r3.ext e,r4.ext e,r5.ext e,r6.ext e,r7,r8,r9,r10⟩
theorem JAt.putUsed {w:World}{B:Nat}{X:List Nat}{j:Jn}(h:JAt w B X j)(y:Int):JAt (w.setCell ⟨B,4,none⟩ (.int .i64 y)) B X {j with ru:=y}:=by
 obtain⟨hB,da,dc,db,dd,na,nc,nb,nd,ne,nf,sa,sc,sb,sd,se,sf,ca,cc,fa,fc,ta,tc,h1,h2⟩:=h;have e:Ext (zar w X) (zar (w.setCell ⟨B,4,none⟩ (.int .i64 y)) X):=Ext.butL ((ButL.refl X _ w).set (.inl hB) 4 (.int .i64 y));obtain⟨r1,r2,r3,r4,r5,r6,r7,r8,r9,r10⟩:=h2;have k0:=heap_setCell_same w B 4 _ _ (.int .i64 y) h1;exact⟨hB,da,dc,db,dd,na,nc,nb,nd,ne,nf,sa,sc,sb,sd,se,sf,ca,cc,fa,fc,ta,tc,k0.trans rfl,r1.ext e,r2.ext e,r3.ext e,r4.ext e,r5.ext e,r6.ext e,r7,r8,r9,r10⟩
theorem JAt.putLast {w:World}{B:Nat}{X:List Nat}{j:Jn}(h:JAt w B X j)(x:Int):JAt (w.setCell ⟨B,5,none⟩ (.int .i64 x)) B X {j with last:=x}:=by
 obtain⟨hB,da,dc,db,dd,na,nc,nb,nd,ne,nf,sa,sc,sb,sd,se,sf,ca,cc,fa,fc,ta,tc,h1,h2⟩:=h;have e:Ext (zar w X) (zar (w.setCell ⟨B,5,none⟩ (.int .i64 x)) X):=Ext.butL ((ButL.refl X _ w).set (.inl hB) 5 (.int .i64 x));obtain⟨r1,r2,r3,r4,r5,r6,r7,r8,r9,r10⟩:=h2;have k0:=heap_setCell_same w B 5 _ _ (.int .i64 x) h1;exact⟨hB,da,dc,db,dd,na,nc,nb,nd,ne,nf,sa,sc,sb,sd,se,sf,ca,cc,fa,fc,ta,tc,k0.trans rfl,r1.ext e,r2.ext e,r3.ext e,r4.ext e,r5.ext e,r6.ext e,r7,r8,r9,r10⟩
theorem z13 {X:List Nat}{B:Nat}(hB:B∈X)(w:World)(v0 v1 v2 v3 v4 v5 v6 v7 v8 v9:Value):Ext (zar w X) (zar ((((((((((w.setCell ⟨B,31,none⟩ (v0)).setCell ⟨B,32,none⟩ (v1)).setCell ⟨B,33,none⟩ (v2)).setCell ⟨B,34,none⟩ (v3)).setCell ⟨B,35,none⟩ (v4)).setCell ⟨B,36,none⟩ (v5)).setCell ⟨B,37,none⟩ (v6)).setCell ⟨B,38,none⟩ (v7)).setCell ⟨B,39,none⟩ (v8)).setCell ⟨B,40,none⟩ (v9)) X):=
 Ext.butL (((((((((((ButL.refl X _ w).set (.inl hB) 31 v0).set (.inl hB) 32 v1).set (.inl hB) 33 v2).set (.inl hB) 34 v3).set (.inl hB) 35 v4).set (.inl hB) 36 v5).set (.inl hB) 37 v6).set (.inl hB) 38 v7).set (.inl hB) 39 v8).set (.inl hB) 40 v9)
theorem zzg {w:World}{B:Nat}{cs:Array Value}{T:TypeId}(h:w.heap[B]?=some (.cells cs T (0,0)))(v0 v1 v2 v3 v4 v5 v6 v7 v8 v9:Value):((((((((((w.setCell ⟨B,31,none⟩ (v0)).setCell ⟨B,32,none⟩ (v1)).setCell ⟨B,33,none⟩ (v2)).setCell ⟨B,34,none⟩ (v3)).setCell ⟨B,35,none⟩ (v4)).setCell ⟨B,36,none⟩ (v5)).setCell ⟨B,37,none⟩ (v6)).setCell ⟨B,38,none⟩ (v7)).setCell ⟨B,39,none⟩ (v8)).setCell ⟨B,40,none⟩ (v9)).heap[B]?=some (.cells ((((((((((cs.setIfInBounds 31 v0).setIfInBounds 32 v1).setIfInBounds 33 v2).setIfInBounds 34 v3).setIfInBounds 35 v4).setIfInBounds 36 v5).setIfInBounds 37 v6).setIfInBounds 38 v7).setIfInBounds 39 v8).setIfInBounds 40 v9) T (0,0)):=by
 have k0:=heap_setCell_same w B 31 _ _ v0 h;have k1:=heap_setCell_same (w.setCell ⟨B,31,none⟩ v0) B 32 _ _ v1 k0;have k2:=heap_setCell_same ((w.setCell ⟨B,31,none⟩ v0).setCell ⟨B,32,none⟩ v1) B 33 _ _ v2 k1;have k3:=heap_setCell_same (((w.setCell ⟨B,31,none⟩ v0).setCell ⟨B,32,none⟩ v1).setCell ⟨B,33,none⟩ v2) B 34 _ _ v3 k2;have k4:=heap_setCell_same ((((w.setCell ⟨B,31,none⟩ v0).setCell ⟨B,32,none⟩ v1).setCell ⟨B,33,none⟩ v2).setCell ⟨B,34,none⟩ v3) B 35 _ _ v4 k3;have k5:=heap_setCell_same (((((w.setCell ⟨B,31,none⟩ v0).setCell ⟨B,32,none⟩ v1).setCell ⟨B,33,none⟩ v2).setCell ⟨B,34,none⟩ v3).setCell ⟨B,35,none⟩ v4) B 36 _ _ v5 k4;have k6:=heap_setCell_same ((((((w.setCell ⟨B,31,none⟩ v0).setCell ⟨B,32,none⟩ v1).setCell ⟨B,33,none⟩ v2).setCell ⟨B,34,none⟩ v3).setCell ⟨B,35,none⟩ v4).setCell ⟨B,36,none⟩ v5) B 37 _ _ v6 k5;have k7:=heap_setCell_same (((((((w.setCell ⟨B,31,none⟩ v0).setCell ⟨B,32,none⟩ v1).setCell ⟨B,33,none⟩ v2).setCell ⟨B,34,none⟩ v3).setCell ⟨B,35,none⟩ v4).setCell ⟨B,36,none⟩ v5).setCell ⟨B,37,none⟩ v6) B 38 _ _ v7 k6;have k8:=heap_setCell_same ((((((((w.setCell ⟨B,31,none⟩ v0).setCell ⟨B,32,none⟩ v1).setCell ⟨B,33,none⟩ v2).setCell ⟨B,34,none⟩ v3).setCell ⟨B,35,none⟩ v4).setCell ⟨B,36,none⟩ v5).setCell ⟨B,37,none⟩ v6).setCell ⟨B,38,none⟩ v7) B 39 _ _ v8 k7;have k9:=heap_setCell_same (((((((((w.setCell ⟨B,31,none⟩ v0).setCell ⟨B,32,none⟩ v1).setCell ⟨B,33,none⟩ v2).setCell ⟨B,34,none⟩ v3).setCell ⟨B,35,none⟩ v4).setCell ⟨B,36,none⟩ v5).setCell ⟨B,37,none⟩ v6).setCell ⟨B,38,none⟩ v7).setCell ⟨B,39,none⟩ v8) B 40 _ _ v9 k8;exact k9
theorem z14 {X:List Nat}{B:Nat}(hB:B∈X)(w:World)(v0 v1 v2 v3 v4 v5 v6 v7 v8 v9:Value):Ext (zar w X) (zar ((((((((((w.setCell ⟨B,41,none⟩ (v0)).setCell ⟨B,42,none⟩ (v1)).setCell ⟨B,43,none⟩ (v2)).setCell ⟨B,44,none⟩ (v3)).setCell ⟨B,45,none⟩ (v4)).setCell ⟨B,46,none⟩ (v5)).setCell ⟨B,47,none⟩ (v6)).setCell ⟨B,48,none⟩ (v7)).setCell ⟨B,49,none⟩ (v8)).setCell ⟨B,50,none⟩ (v9)) X):=
 Ext.butL (((((((((((ButL.refl X _ w).set (.inl hB) 41 v0).set (.inl hB) 42 v1).set (.inl hB) 43 v2).set (.inl hB) 44 v3).set (.inl hB) 45 v4).set (.inl hB) 46 v5).set (.inl hB) 47 v6).set (.inl hB) 48 v7).set (.inl hB) 49 v8).set (.inl hB) 50 v9)
theorem zzh {w:World}{B:Nat}{cs:Array Value}{T:TypeId}(h:w.heap[B]?=some (.cells cs T (0,0)))(v0 v1 v2 v3 v4 v5 v6 v7 v8 v9:Value):((((((((((w.setCell ⟨B,41,none⟩ (v0)).setCell ⟨B,42,none⟩ (v1)).setCell ⟨B,43,none⟩ (v2)).setCell ⟨B,44,none⟩ (v3)).setCell ⟨B,45,none⟩ (v4)).setCell ⟨B,46,none⟩ (v5)).setCell ⟨B,47,none⟩ (v6)).setCell ⟨B,48,none⟩ (v7)).setCell ⟨B,49,none⟩ (v8)).setCell ⟨B,50,none⟩ (v9)).heap[B]?=some (.cells ((((((((((cs.setIfInBounds 41 v0).setIfInBounds 42 v1).setIfInBounds 43 v2).setIfInBounds 44 v3).setIfInBounds 45 v4).setIfInBounds 46 v5).setIfInBounds 47 v6).setIfInBounds 48 v7).setIfInBounds 49 v8).setIfInBounds 50 v9) T (0,0)):=by
 have k0:=heap_setCell_same w B 41 _ _ v0 h;have k1:=heap_setCell_same (w.setCell ⟨B,41,none⟩ v0) B 42 _ _ v1 k0;have k2:=heap_setCell_same ((w.setCell ⟨B,41,none⟩ v0).setCell ⟨B,42,none⟩ v1) B 43 _ _ v2 k1;have k3:=heap_setCell_same (((w.setCell ⟨B,41,none⟩ v0).setCell ⟨B,42,none⟩ v1).setCell ⟨B,43,none⟩ v2) B 44 _ _ v3 k2;have k4:=heap_setCell_same ((((w.setCell ⟨B,41,none⟩ v0).setCell ⟨B,42,none⟩ v1).setCell ⟨B,43,none⟩ v2).setCell ⟨B,44,none⟩ v3) B 45 _ _ v4 k3;have k5:=heap_setCell_same (((((w.setCell ⟨B,41,none⟩ v0).setCell ⟨B,42,none⟩ v1).setCell ⟨B,43,none⟩ v2).setCell ⟨B,44,none⟩ v3).setCell ⟨B,45,none⟩ v4) B 46 _ _ v5 k4;have k6:=heap_setCell_same ((((((w.setCell ⟨B,41,none⟩ v0).setCell ⟨B,42,none⟩ v1).setCell ⟨B,43,none⟩ v2).setCell ⟨B,44,none⟩ v3).setCell ⟨B,45,none⟩ v4).setCell ⟨B,46,none⟩ v5) B 47 _ _ v6 k5;have k7:=heap_setCell_same (((((((w.setCell ⟨B,41,none⟩ v0).setCell ⟨B,42,none⟩ v1).setCell ⟨B,43,none⟩ v2).setCell ⟨B,44,none⟩ v3).setCell ⟨B,45,none⟩ v4).setCell ⟨B,46,none⟩ v5).setCell ⟨B,47,none⟩ v6) B 48 _ _ v7 k6;have k8:=heap_setCell_same ((((((((w.setCell ⟨B,41,none⟩ v0).setCell ⟨B,42,none⟩ v1).setCell ⟨B,43,none⟩ v2).setCell ⟨B,44,none⟩ v3).setCell ⟨B,45,none⟩ v4).setCell ⟨B,46,none⟩ v5).setCell ⟨B,47,none⟩ v6).setCell ⟨B,48,none⟩ v7) B 49 _ _ v8 k7;have k9:=heap_setCell_same (((((((((w.setCell ⟨B,41,none⟩ v0).setCell ⟨B,42,none⟩ v1).setCell ⟨B,43,none⟩ v2).setCell ⟨B,44,none⟩ v3).setCell ⟨B,45,none⟩ v4).setCell ⟨B,46,none⟩ v5).setCell ⟨B,47,none⟩ v6).setCell ⟨B,48,none⟩ v7).setCell ⟨B,49,none⟩ v8) B 50 _ _ v9 k8;exact k9
theorem zqo (j:Jn)(da:Option Addr)(dc:Nat)(db:Option Addr)(dd:Nat)(na:Option Addr)(nc:Nat)(nb:Option Addr)(nd:Nat)(ne:Option Addr)(nf:Nat)(sa:Option Addr)(sc:Nat)(sb:Option Addr)(sd:Nat)(se:Option Addr)(sf:Nat)(ca:Option Addr)(cc:Nat)(fa:Option Addr)(fc:Nat)(ta:Option Addr)(tc:Nat){t:Tx}{ua:Option Addr}{uc:Nat}{ub:Option Addr}{ud:Nat}{ue:Option Addr}{uf:Nat}:(((((((((((zbq j da dc db dd na nc nb nd ne nf sa sc sb sd se sf ca cc fa fc ta tc).setIfInBounds 31 (.int .i64 t.seq)).setIfInBounds 32 (.slice ua t.info.length uc)).setIfInBounds 33 (.slice ub t.data.length ud)).setIfInBounds 34 (.slice ue t.rev.length uf)).setIfInBounds 35 (.bool t.h0.on)).setIfInBounds 36 (.int .i64 t.h0.left)).setIfInBounds 37 (.bool t.h1.on)).setIfInBounds 38 (.int .i64 t.h1.left)).setIfInBounds 39 (.bool t.h2.on)).setIfInBounds 40 (.int .i64 t.h2.left))=zbq {j with now:=t} da dc db dd ua uc ub ud ue uf sa sc sb sd se sf ca cc fa fc ta tc:=by
 kernel_rfl
theorem JAt.putNow {w:World}{B:Nat}{X:List Nat}{j:Jn}(h:JAt w B X j){t:Tx}{ua:Option Addr}{uc:Nat}{ub:Option Addr}{ud:Nat}{ue:Option Addr}{uf:Nat}(hT:IsTx (zar w X) (.agg #[.int .i64 t.seq,.slice ua t.info.length uc,.slice ub t.data.length ud,.slice ue t.rev.length uf,.bool t.h0.on,.int .i64 t.h0.left,.bool t.h1.on,.int .i64 t.h1.left,.bool t.h2.on,.int .i64 t.h2.left]) t)(hR:RoomTx (.agg #[.int .i64 t.seq,.slice ua t.info.length uc,.slice ub t.data.length ud,.slice ue t.rev.length uf,.bool t.h0.on,.int .i64 t.h0.left,.bool t.h1.on,.int .i64 t.h1.left,.bool t.h2.on,.int .i64 t.h2.left])):JAt ((((((((((w.setCell ⟨B,31,none⟩ (.int .i64 t.seq)).setCell ⟨B,32,none⟩ (.slice ua t.info.length uc)).setCell ⟨B,33,none⟩ (.slice ub t.data.length ud)).setCell ⟨B,34,none⟩ (.slice ue t.rev.length uf)).setCell ⟨B,35,none⟩ (.bool t.h0.on)).setCell ⟨B,36,none⟩ (.int .i64 t.h0.left)).setCell ⟨B,37,none⟩ (.bool t.h1.on)).setCell ⟨B,38,none⟩ (.int .i64 t.h1.left)).setCell ⟨B,39,none⟩ (.bool t.h2.on)).setCell ⟨B,40,none⟩ (.int .i64 t.h2.left)) B X {j with now:=t}:=by
 obtain⟨hB,da,dc,db,dd,na,nc,nb,nd,ne,nf,sa,sc,sb,sd,se,sf,ca,cc,fa,fc,ta,tc,h1,h2⟩:=h;have e:=z13 hB w (.int .i64 t.seq) (.slice ua t.info.length uc) (.slice ub t.data.length ud) (.slice ue t.rev.length uf) (.bool t.h0.on) (.int .i64 t.h0.left) (.bool t.h1.on) (.int .i64 t.h1.left) (.bool t.h2.on) (.int .i64 t.h2.left);have k:=zzg h1 (.int .i64 t.seq) (.slice ua t.info.length uc) (.slice ub t.data.length ud) (.slice ue t.rev.length uf) (.bool t.h0.on) (.int .i64 t.h0.left) (.bool t.h1.on) (.int .i64 t.h1.left) (.bool t.h2.on) (.int .i64 t.h2.left);rw[zqo] at k;obtain⟨r1,r2,r3,r4,r5,r6,r7,r8,r9,r10⟩:=h2;exact⟨hB,da,dc,db,dd,ua,uc,ub,ud,ue,uf,sa,sc,sb,sd,se,sf,ca,cc,fa,fc,ta,tc,k,r1.ext e,hT.ext e,r3.ext e,r4.ext e,r5.ext e,r6.ext e,hR,r8,r9,r10⟩
theorem zlw (j:Jn)(da:Option Addr)(dc:Nat)(db:Option Addr)(dd:Nat)(na:Option Addr)(nc:Nat)(nb:Option Addr)(nd:Nat)(ne:Option Addr)(nf:Nat)(sa:Option Addr)(sc:Nat)(sb:Option Addr)(sd:Nat)(se:Option Addr)(sf:Nat)(ca:Option Addr)(cc:Nat)(fa:Option Addr)(fc:Nat)(ta:Option Addr)(tc:Nat){t:Tx}{ua:Option Addr}{uc:Nat}{ub:Option Addr}{ud:Nat}{ue:Option Addr}{uf:Nat}:(((((((((((zbq j da dc db dd na nc nb nd ne nf sa sc sb sd se sf ca cc fa fc ta tc).setIfInBounds 41 (.int .i64 t.seq)).setIfInBounds 42 (.slice ua t.info.length uc)).setIfInBounds 43 (.slice ub t.data.length ud)).setIfInBounds 44 (.slice ue t.rev.length uf)).setIfInBounds 45 (.bool t.h0.on)).setIfInBounds 46 (.int .i64 t.h0.left)).setIfInBounds 47 (.bool t.h1.on)).setIfInBounds 48 (.int .i64 t.h1.left)).setIfInBounds 49 (.bool t.h2.on)).setIfInBounds 50 (.int .i64 t.h2.left))=zbq {j with sealed:=t} da dc db dd na nc nb nd ne nf ua uc ub ud ue uf ca cc fa fc ta tc:=by
 kernel_rfl
theorem JAt.putSealed {w:World}{B:Nat}{X:List Nat}{j:Jn}(h:JAt w B X j){t:Tx}{ua:Option Addr}{uc:Nat}{ub:Option Addr}{ud:Nat}{ue:Option Addr}{uf:Nat}(hT:IsTx (zar w X) (.agg #[.int .i64 t.seq,.slice ua t.info.length uc,.slice ub t.data.length ud,.slice ue t.rev.length uf,.bool t.h0.on,.int .i64 t.h0.left,.bool t.h1.on,.int .i64 t.h1.left,.bool t.h2.on,.int .i64 t.h2.left]) t):JAt ((((((((((w.setCell ⟨B,41,none⟩ (.int .i64 t.seq)).setCell ⟨B,42,none⟩ (.slice ua t.info.length uc)).setCell ⟨B,43,none⟩ (.slice ub t.data.length ud)).setCell ⟨B,44,none⟩ (.slice ue t.rev.length uf)).setCell ⟨B,45,none⟩ (.bool t.h0.on)).setCell ⟨B,46,none⟩ (.int .i64 t.h0.left)).setCell ⟨B,47,none⟩ (.bool t.h1.on)).setCell ⟨B,48,none⟩ (.int .i64 t.h1.left)).setCell ⟨B,49,none⟩ (.bool t.h2.on)).setCell ⟨B,50,none⟩ (.int .i64 t.h2.left)) B X {j with sealed:=t}:=by
 obtain⟨hB,da,dc,db,dd,na,nc,nb,nd,ne,nf,sa,sc,sb,sd,se,sf,ca,cc,fa,fc,ta,tc,h1,h2⟩:=h;have e:=z14 hB w (.int .i64 t.seq) (.slice ua t.info.length uc) (.slice ub t.data.length ud) (.slice ue t.rev.length uf) (.bool t.h0.on) (.int .i64 t.h0.left) (.bool t.h1.on) (.int .i64 t.h1.left) (.bool t.h2.on) (.int .i64 t.h2.left);have k:=zzh h1 (.int .i64 t.seq) (.slice ua t.info.length uc) (.slice ub t.data.length ud) (.slice ue t.rev.length uf) (.bool t.h0.on) (.int .i64 t.h0.left) (.bool t.h1.on) (.int .i64 t.h1.left) (.bool t.h2.on) (.int .i64 t.h2.left);rw[zlw] at k;obtain⟨r1,r2,r3,r4,r5,r6,r7,r8,r9,r10⟩:=h2;exact⟨hB,da,dc,db,dd,na,nc,nb,nd,ne,nf,ua,uc,ub,ud,ue,uf,ca,cc,fa,fc,ta,tc,k,r1.ext e,r2.ext e,hT.ext e,r4.ext e,r5.ext e,r6.ext e,r7,r8,r9,r10⟩
theorem JAt.putDone {w:World}{B:Nat}{X:List Nat}{j:Jn}(h:JAt w B X j){l:List Tx}{ua:Option Addr}{uc:Nat}(hS:SegTx (zar w X) ua l):JAt (w.setCell ⟨B,51,none⟩ (.slice ua l.length uc)) B X {j with done:=l}:=by
 obtain⟨hB,da,dc,db,dd,na,nc,nb,nd,ne,nf,sa,sc,sb,sd,se,sf,ca,cc,fa,fc,ta,tc,h1,h2⟩:=h;have e:Ext (zar w X) (zar (w.setCell ⟨B,51,none⟩ (.slice ua l.length uc)) X):=Ext.butL ((ButL.refl X _ w).set (.inl hB) 51 (.slice ua l.length uc));obtain⟨r1,r2,r3,r4,r5,r6,r7,r8,r9,r10⟩:=h2;have k0:=heap_setCell_same w B 51 _ _ (.slice ua l.length uc) h1;exact⟨hB,da,dc,db,dd,na,nc,nb,nd,ne,nf,sa,sc,sb,sd,se,sf,ua,uc,fa,fc,ta,tc,k0.trans rfl,r1.ext e,r2.ext e,r3.ext e,hS.ext e,r5.ext e,r6.ext e,r7,r8,Nat.zero_le _,r10⟩
theorem JAt.putFound {w:World}{B:Nat}{X:List Nat}{j:Jn}(h:JAt w B X j){l:List Tx}{ua:Option Addr}{uc:Nat}(x y:Int)(hS:SegTx (zar w X) ua l):JAt (((w.setCell ⟨B,52,none⟩ (.slice ua l.length uc)).setCell ⟨B,53,none⟩ (.int .i64 x)).setCell ⟨B,54,none⟩ (.int .i64 y)) B X {j with fL:=l,fN:=x,fP:=y}:=by
 obtain⟨hB,da,dc,db,dd,na,nc,nb,nd,ne,nf,sa,sc,sb,sd,se,sf,ca,cc,fa,fc,ta,tc,h1,h2⟩:=h;have e:Ext (zar w X) (zar (((w.setCell ⟨B,52,none⟩ (.slice ua l.length uc)).setCell ⟨B,53,none⟩ (.int .i64 x)).setCell ⟨B,54,none⟩ (.int .i64 y)) X):=Ext.butL ((((ButL.refl X _ w).set (.inl hB) 52 (.slice ua l.length uc)).set (.inl hB) 53 (.int .i64 x)).set (.inl hB) 54 (.int .i64 y));obtain⟨r1,r2,r3,r4,r5,r6,r7,r8,r9,r10⟩:=h2;have k0:=heap_setCell_same w B 52 _ _ (.slice ua l.length uc) h1;have k1:=heap_setCell_same (w.setCell ⟨B,52,none⟩ (.slice ua l.length uc)) B 53 _ _ (.int .i64 x) k0;have k2:=heap_setCell_same ((w.setCell ⟨B,52,none⟩ (.slice ua l.length uc)).setCell ⟨B,53,none⟩ (.int .i64 x)) B 54 _ _ (.int .i64 y) k1;exact⟨hB,da,dc,db,dd,na,nc,nb,nd,ne,nf,sa,sc,sb,sd,se,sf,ca,cc,ua,uc,ta,tc,k2.trans rfl,r1.ext e,r2.ext e,r3.ext e,r4.ext e,hS.ext e,r6.ext e,r7,r8,r9,Nat.zero_le _⟩
theorem JAt.putWork {w:World}{B:Nat}{X:List Nat}{j:Jn}(h:JAt w B X j)(x:Int):JAt (w.setCell ⟨B,55,none⟩ (.int .i64 x)) B X {j with work:=x}:=by
 obtain⟨hB,da,dc,db,dd,na,nc,nb,nd,ne,nf,sa,sc,sb,sd,se,sf,ca,cc,fa,fc,ta,tc,h1,h2⟩:=h;have e:Ext (zar w X) (zar (w.setCell ⟨B,55,none⟩ (.int .i64 x)) X):=Ext.butL ((ButL.refl X _ w).set (.inl hB) 55 (.int .i64 x));obtain⟨r1,r2,r3,r4,r5,r6,r7,r8,r9,r10⟩:=h2;have k0:=heap_setCell_same w B 55 _ _ (.int .i64 x) h1;exact⟨hB,da,dc,db,dd,na,nc,nb,nd,ne,nf,sa,sc,sb,sd,se,sf,ca,cc,fa,fc,ta,tc,k0.trans rfl,r1.ext e,r2.ext e,r3.ext e,r4.ext e,r5.ext e,r6.ext e,r7,r8,r9,r10⟩
theorem JAt.putSteps {w:World}{B:Nat}{X:List Nat}{j:Jn}(h:JAt w B X j){l:List St}{ua:Option Addr}{uc:Nat}(hS:SegSt (zar w X) ua l)(hc:l.length≤uc):JAt (w.setCell ⟨B,56,none⟩ (.slice ua l.length uc)) B X {j with steps:=l}:=by
 obtain⟨hB,da,dc,db,dd,na,nc,nb,nd,ne,nf,sa,sc,sb,sd,se,sf,ca,cc,fa,fc,ta,tc,h1,h2⟩:=h;have e:Ext (zar w X) (zar (w.setCell ⟨B,56,none⟩ (.slice ua l.length uc)) X):=Ext.butL ((ButL.refl X _ w).set (.inl hB) 56 (.slice ua l.length uc));obtain⟨r1,r2,r3,r4,r5,r6,r7,r8,r9,r10⟩:=h2;have k0:=heap_setCell_same w B 56 _ _ (.slice ua l.length uc) h1;exact⟨hB,da,dc,db,dd,na,nc,nb,nd,ne,nf,sa,sc,sb,sd,se,sf,ca,cc,fa,fc,ua,uc,k0.trans rfl,r1.ext e,r2.ext e,r3.ext e,r4.ext e,r5.ext e,hS.ext e,r7,hc,r9,r10⟩
theorem JAt.putRole {w:World}{B:Nat}{X:List Nat}{j:Jn}(h:JAt w B X j)(b:Nat)(hb:b<12)(x:Int):JAt (w.setCell ⟨B,7+b*2,none⟩ (.int .i64 x)) B X {j with role:=upd j.role b x}:=by
 obtain⟨hB,da,dc,db,dd,na,nc,nb,nd,ne,nf,sa,sc,sb,sd,se,sf,ca,cc,fa,fc,ta,tc,h1,h2⟩:=h;have e:Ext (zar w X) (zar (w.setCell ⟨B,7+b*2,none⟩ (.int .i64 x)) X):=Ext.butL ((ButL.refl X _ w).set (.inl hB) _ _);obtain⟨r1,r2,r3,r4,r5,r6,r7,r8,r9,r10⟩:=h2;have k0:=heap_setCell_same w B (7+b*2) _ _ (.int .i64 x) h1;refine⟨hB,da,dc,db,dd,na,nc,nb,nd,ne,nf,sa,sc,sb,sd,se,sf,ca,cc,fa,fc,ta,tc,?_,r1.ext e,r2.ext e,r3.ext e,r4.ext e,r5.ext e,r6.ext e,r7,r8,r9,r10⟩
 match b,hb,k0 with
 |0,_,k0=>exact k0.trans rfl
 |1,_,k0=>exact k0.trans rfl
 |2,_,k0=>exact k0.trans rfl
 |3,_,k0=>exact k0.trans rfl
 |4,_,k0=>exact k0.trans rfl
 |5,_,k0=>exact k0.trans rfl
 |6,_,k0=>exact k0.trans rfl
 |7,_,k0=>exact k0.trans rfl
 |8,_,k0=>exact k0.trans rfl
 |9,_,k0=>exact k0.trans rfl
 |10,_,k0=>exact k0.trans rfl
 |11,_,k0=>exact k0.trans rfl
 |n+12,hb,_=>omega
theorem JAt.putFreed {w:World}{B:Nat}{X:List Nat}{j:Jn}(h:JAt w B X j)(b:Nat)(hb:b<12)(x:Int):JAt (w.setCell ⟨B,8+b*2,none⟩ (.int .i64 x)) B X {j with freed:=upd j.freed b x}:=by
 obtain⟨hB,da,dc,db,dd,na,nc,nb,nd,ne,nf,sa,sc,sb,sd,se,sf,ca,cc,fa,fc,ta,tc,h1,h2⟩:=h;have e:Ext (zar w X) (zar (w.setCell ⟨B,8+b*2,none⟩ (.int .i64 x)) X):=Ext.butL ((ButL.refl X _ w).set (.inl hB) _ _);obtain⟨r1,r2,r3,r4,r5,r6,r7,r8,r9,r10⟩:=h2;have k0:=heap_setCell_same w B (8+b*2) _ _ (.int .i64 x) h1;refine⟨hB,da,dc,db,dd,na,nc,nb,nd,ne,nf,sa,sc,sb,sd,se,sf,ca,cc,fa,fc,ta,tc,?_,r1.ext e,r2.ext e,r3.ext e,r4.ext e,r5.ext e,r6.ext e,r7,r8,r9,r10⟩
 match b,hb,k0 with
 |0,_,k0=>exact k0.trans rfl
 |1,_,k0=>exact k0.trans rfl
 |2,_,k0=>exact k0.trans rfl
 |3,_,k0=>exact k0.trans rfl
 |4,_,k0=>exact k0.trans rfl
 |5,_,k0=>exact k0.trans rfl
 |6,_,k0=>exact k0.trans rfl
 |7,_,k0=>exact k0.trans rfl
 |8,_,k0=>exact k0.trans rfl
 |9,_,k0=>exact k0.trans rfl
 |10,_,k0=>exact k0.trans rfl
 |11,_,k0=>exact k0.trans rfl
 |n+12,hb,_=>omega
def zdc (w:World)(B:Nat)(X:List Nat)(p:Jn×Rp)(e:Ending)(w':World):Prop:=e=.returned (vRp p.2)∧JAt w' B X p.1∧ButL [B] w.heap.size w w'
theorem zbj {w:World}{B:Nat}{v0 v1 v2:Value}{t:TypeId}(h:w.heap[B]?=some (.cells #[v0,v1,v2] t (0,0))):
  (w.cell? ⟨B,0,none⟩=some v0∧w.cell? ⟨B,1,none⟩=some v1∧w.cell? ⟨B,2,none⟩=some v2)∧(w.frozen? ⟨B,0,none⟩=false∧w.frozen? ⟨B,1,none⟩=false∧w.frozen? ⟨B,2,none⟩=false):=by
 refine⟨⟨?_,?_,?_⟩,frozen_of_row w _ _ _ _ h,frozen_of_row w _ _ _ _ h,frozen_of_row w _ _ _ _ h⟩<;>(rw[cell_of_row w _ _ _ _ _ h];rfl)
theorem zwb {w:World}{r:Nat}{B:Nat}{X:List Nat}{j:Jn}(hJ:JAt w B (r::X) j)(hr:r≠B)(hB:B∈X)(v0 v1 v2:Value):
  JAt (((w.setCell ⟨r,0,none⟩ v0).setCell ⟨r,1,none⟩ v1).setCell ⟨r,2,none⟩ v2) B X j:=
 (((hJ.set (by simp) hr 0 v0).set (by simp) hr 1 v1).set (by simp) hr 2 v2).less hB
theorem zbc {P0:Program}{fn:Func}{a:Act}{w w2:World}{r B:Nat}{X:List Nat}{P:Jn×Rp}{j:Jn}{y:Rp}{t:TypeId}{z0 z1 z2 v0 v1 v2:Value}(hE:P=(j,y))(KR:w2.heap[r]?=some (.cells #[z0,z1,z2] t (0,0)))(HJ:JAt w2 B (r::X) j)(HB:ButL [B] w.heap.size w w2)(hrB:r≠B)(hBX:B∈X)
  (hres:∀W:World,W.cell? ⟨r,0,none⟩=some v0→W.cell? ⟨r,1,none⟩=some v1→W.cell? ⟨r,2,none⟩=some v2→(results fn a.tmps).run P0 W=.ok (.agg #[v0,v1,v2]) W) (hd:a.defers=[]:=by rfl) (hv:vRp y=.agg #[v0,v1,v2]:=by rfl) (hr:w.heap.size≤r:=by omega):
  bodyPost P0 fn (zdc w B X P) .ret a (((w2.setCell ⟨r,0,none⟩ v0).setCell ⟨r,1,none⟩ v1).setCell ⟨r,2,none⟩ v2):=by
 obtain⟨⟨u0,u1,u2⟩,_⟩:=zbj (zfs KR v0 v1 v2);refine bodyPost_ret (hres _ u0 u1 u2) hd ⟨by rw[hE,←hv],?_,((HB.set (.inr hr) 0 _).set (.inr hr) 1 _).set (.inr hr) 2 _⟩;rw[hE];exact zwb HJ hrB hBX _ _ _
theorem z15 (B:Nat)(w:World)(v0 v1 v2 v3 v4 v5 v6 v7 v8 v9:Value):ButL [B] w.heap.size w ((((((((((w.setCell ⟨B,31,none⟩ (v0)).setCell ⟨B,32,none⟩ (v1)).setCell ⟨B,33,none⟩ (v2)).setCell ⟨B,34,none⟩ (v3)).setCell ⟨B,35,none⟩ (v4)).setCell ⟨B,36,none⟩ (v5)).setCell ⟨B,37,none⟩ (v6)).setCell ⟨B,38,none⟩ (v7)).setCell ⟨B,39,none⟩ (v8)).setCell ⟨B,40,none⟩ (v9)):=
 (((((((((((ButL.refl [B] _ w).set (.inl (by simp)) 31 v0).set (.inl (by simp)) 32 v1).set (.inl (by simp)) 33 v2).set (.inl (by simp)) 34 v3).set (.inl (by simp)) 35 v4).set (.inl (by simp)) 36 v5).set (.inl (by simp)) 37 v6).set (.inl (by simp)) 38 v7).set (.inl (by simp)) 39 v8).set (.inl (by simp)) 40 v9)
theorem zi7 (B:Nat)(X:List Nat)(j:Jn)(w:World)(h:JAt w B X j)(t:Tx)(ua:Option Addr)(uc:Nat)(ub:Option Addr)(ud:Nat)(ue:Option Addr)(uf:Nat)(hT:IsTx (zar w X) (.agg #[.int .i64 t.seq,.slice ua t.info.length uc,.slice ub t.data.length ud,.slice ue t.rev.length uf,.bool t.h0.on,.int .i64 t.h0.left,.bool t.h1.on,.int .i64 t.h1.left,.bool t.h2.on,.int .i64 t.h2.left]) t)(hR:RoomTx (.agg #[.int .i64 t.seq,.slice ua t.info.length uc,.slice ub t.data.length ud,.slice ue t.rev.length uf,.bool t.h0.on,.int .i64 t.h0.left,.bool t.h1.on,.int .i64 t.h1.left,.bool t.h2.on,.int .i64 t.h2.left]))(e:Int):
  Calls Tryz.prog 79 #[.pointer (some ⟨B,0,none⟩),.agg #[.int .i64 t.seq,.slice ua t.info.length uc,.slice ub t.data.length ud,.slice ue t.rev.length uf,.bool t.h0.on,.int .i64 t.h0.left,.bool t.h1.on,.int .i64 t.h1.left,.bool t.h2.on,.int .i64 t.h2.left],.int .i64 e] w (zdc w B X (zmh j t e)):=by
 have HJ:=zaa h;have hlt:=h.lt;have hBX:=h.1;have HT:=zaa hT;have HR:=zaa hR;obtain⟨_,da,dc,db,dd,na,nc,nb,nd,ne,nf,sa,sc,sb,sd,se,sf,ca,cc,fa,fc,ta,tc,h1,_⟩:=h;have c31:w.cell? ⟨B,31,none⟩=some (.int .i64 j.now.seq):=zaj h1 31;have fc31:w.frozen? ⟨B,31,none⟩=false:=frozen_of_row w _ _ _ _ h1;have c32:w.cell? ⟨B,32,none⟩=some (.slice na j.now.info.length nc):=zaj h1 32;have fc32:w.frozen? ⟨B,32,none⟩=false:=frozen_of_row w _ _ _ _ h1;have c33:w.cell? ⟨B,33,none⟩=some (.slice nb j.now.data.length nd):=zaj h1 33;have fc33:w.frozen? ⟨B,33,none⟩=false:=frozen_of_row w _ _ _ _ h1;have c34:w.cell? ⟨B,34,none⟩=some (.slice ne j.now.rev.length nf):=zaj h1 34;have fc34:w.frozen? ⟨B,34,none⟩=false:=frozen_of_row w _ _ _ _ h1;have c35:w.cell? ⟨B,35,none⟩=some (.bool j.now.h0.on):=zaj h1 35;have fc35:w.frozen? ⟨B,35,none⟩=false:=frozen_of_row w _ _ _ _ h1;have c36:w.cell? ⟨B,36,none⟩=some (.int .i64 j.now.h0.left):=zaj h1 36;have fc36:w.frozen? ⟨B,36,none⟩=false:=frozen_of_row w _ _ _ _ h1;have c37:w.cell? ⟨B,37,none⟩=some (.bool j.now.h1.on):=zaj h1 37;have fc37:w.frozen? ⟨B,37,none⟩=false:=frozen_of_row w _ _ _ _ h1;have c38:w.cell? ⟨B,38,none⟩=some (.int .i64 j.now.h1.left):=zaj h1 38;have fc38:w.frozen? ⟨B,38,none⟩=false:=frozen_of_row w _ _ _ _ h1;have c39:w.cell? ⟨B,39,none⟩=some (.bool j.now.h2.on):=zaj h1 39;have fc39:w.frozen? ⟨B,39,none⟩=false:=frozen_of_row w _ _ _ _ h1;have c40:w.cell? ⟨B,40,none⟩=some (.int .i64 j.now.h2.left):=zaj h1 40;have fc40:w.frozen? ⟨B,40,none⟩=false:=frozen_of_row w _ _ _ _ h1;have hne1:¬B=w.heap.size:=by omega
 have hne2:¬B=w.heap.size+1:=by omega
 clear h1 hT hR;by_cases he:e=0
 ·have HE:Hid (zmh j t e=({j with now:=t},zav 0)):=by rw[Hid,zmh,if_pos he]
  subst he;go_enter Tryz.func79,Tryz.ntmps79;go_wp2_with fail;obtain⟨W0,hW0⟩:∃W0,W0=((((((((((w.setCell ⟨B,31,none⟩ (.int .i64 t.seq)).setCell ⟨B,32,none⟩ (.slice ua t.info.length uc)).setCell ⟨B,33,none⟩ (.slice ub t.data.length ud)).setCell ⟨B,34,none⟩ (.slice ue t.rev.length uf)).setCell ⟨B,35,none⟩ (.bool t.h0.on)).setCell ⟨B,36,none⟩ (.int .i64 t.h0.left)).setCell ⟨B,37,none⟩ (.bool t.h1.on)).setCell ⟨B,38,none⟩ (.int .i64 t.h1.left)).setCell ⟨B,39,none⟩ (.bool t.h2.on)).setCell ⟨B,40,none⟩ (.int .i64 t.h2.left)):=⟨_,rfl⟩;have hJ0:JAt W0 B X {j with now:=t}:=by rw[hW0];exact HJ.o.putNow HT.o HR.o
  have hB0:ButL [B] w.heap.size w W0:=by rw[hW0];exact z15 B w _ _ _ _ _ _ _ _ _ _
  have hz0:W0.heap.size=w.heap.size:=by rw[hW0];simp[World.setCell]
  rw[←hW0];obtain⟨W1,hW1⟩:∃W1,W1=(W0.alloc (.cells #[.int .i64 t.seq,.slice ua t.info.length uc,.slice ub t.data.length ud,.slice ue t.rev.length uf,.bool t.h0.on,.int .i64 t.h0.left,.bool t.h1.on,.int .i64 t.h1.left,.bool t.h2.on,.int .i64 t.h2.left] 40)).alloc (.cells #[.int .i64 0,.int .i64 0,.string ⟨#[]⟩] 31):=⟨_,rfl⟩;have hz1:(W0.alloc (.cells #[.int .i64 t.seq,.slice ua t.info.length uc,.slice ub t.data.length ud,.slice ue t.rev.length uf,.bool t.h0.on,.int .i64 t.h0.left,.bool t.h1.on,.int .i64 t.h1.left,.bool t.h2.on,.int .i64 t.h2.left] 40)).heap.size=w.heap.size+1:=by simp[hz0]
  have HJ1:Hid (JAt W1 B ((w.heap.size+1)::X) {j with now:=t}):=by rw[hW1];exact(hJ0.below (zab _ _)).more (zab _ _) (by omega)
  have HB1:Hid (ButL [B] w.heap.size w W1):=by rw[hW1];exact hB0.trans (Y:=[]) (ButL.of_below (zae (zab _ _) (zab _ _))) hB0.size (by simp)
  have KR:Hid (W1.heap[w.heap.size+1]?=some (.cells #[.int .i64 0,.int .i64 0,.string ⟨#[]⟩] 31 (0,0))):=by rw[hW1,←hz1];exact heap_alloc_new _ _
  have hrl:w.heap.size+1<W1.heap.size:=by rw[hW1];simp;omega
  have hrB:w.heap.size+1≠B:=by omega
  rw[←hW1];clear hW0 hW1 hJ0 hB0 hz0 hz1 c31 fc31 c32 fc32 c33 fc33 c34 fc34 c35 fc35 c36 fc36 c37 fc37 c38 fc38 c39 fc39 c40 fc40;refine(zat 0 _).mono ?_;rintro e w2 ⟨rfl,hb2⟩;have KR2:=zaa (zad hb2 hrl KR.o);have HJ2:=zaa (HJ1.o.below hb2);have HB2:=zaa (HB1.o.trans (Y:=[]) (ButL.of_below hb2) HB1.o.size (by simp));clear hb2;obtain⟨⟨y0,y1,y2⟩,yf⟩:=zbj KR2.o;go_wp2;exact zbc HE.o KR2.o HJ2.o HB2.o hrB hBX fun W u0 u1 u2=>by simp[results,Tryz.results79,go_sem,u0,u1,u2]
 ·have HE:Hid (zmh j t e=(j,zav e)):=by rw[Hid,zmh,if_neg he]
  have he':(e==0)=false:=by simpa using he
  clear he;go_enter Tryz.func79,Tryz.ntmps79;go_wp2_with fail;obtain⟨W1,hW1⟩:∃W1,W1=(w.alloc (.cells #[.int .i64 t.seq,.slice ua t.info.length uc,.slice ub t.data.length ud,.slice ue t.rev.length uf,.bool t.h0.on,.int .i64 t.h0.left,.bool t.h1.on,.int .i64 t.h1.left,.bool t.h2.on,.int .i64 t.h2.left] 40)).alloc (.cells #[.int .i64 0,.int .i64 0,.string ⟨#[]⟩] 31):=⟨_,rfl⟩;have hz1:(w.alloc (.cells #[.int .i64 t.seq,.slice ua t.info.length uc,.slice ub t.data.length ud,.slice ue t.rev.length uf,.bool t.h0.on,.int .i64 t.h0.left,.bool t.h1.on,.int .i64 t.h1.left,.bool t.h2.on,.int .i64 t.h2.left] 40)).heap.size=w.heap.size+1:=by simp
  have HJ1:Hid (JAt W1 B ((w.heap.size+1)::X) j):=by rw[hW1];exact(HJ.o.below (zab _ _)).more (zab _ _) (by omega)
  have HB1:Hid (ButL [B] w.heap.size w W1):=by rw[hW1];exact ButL.of_below (zae (zab _ _) (zab _ _))
  have KR:Hid (W1.heap[w.heap.size+1]?=some (.cells #[.int .i64 0,.int .i64 0,.string ⟨#[]⟩] 31 (0,0))):=by rw[hW1,←hz1];exact heap_alloc_new _ _
  have hrl:w.heap.size+1<W1.heap.size:=by rw[hW1];simp
  have hrB:w.heap.size+1≠B:=by omega
  rw[←hW1];clear hW1 hz1 c31 fc31 c32 fc32 c33 fc33 c34 fc34 c35 fc35 c36 fc36 c37 fc37 c38 fc38 c39 fc39 c40 fc40;refine(zat e _).mono ?_;rintro e w2 ⟨rfl,hb2⟩;have KR2:=zaa (zad hb2 hrl KR.o);have HJ2:=zaa (HJ1.o.below hb2);have HB2:=zaa (HB1.o.trans (Y:=[]) (ButL.of_below hb2) HB1.o.size (by simp));clear hb2;obtain⟨⟨y0,y1,y2⟩,yf⟩:=zbj KR2.o;go_wp2;exact zbc HE.o KR2.o HJ2.o HB2.o hrB hBX fun W u0 u1 u2=>by simp[results,Tryz.results79,go_sem,u0,u1,u2]
theorem zqp (B:Nat)(X:List Nat)(j:Jn)(w:World)(h:JAt w B X j)(hX:∀x∈X,x<w.heap.size)(wk:Int)(a:Option Addr)(c:Nat)(l:List (Int×ByteArray))(hS:SegW w a l)(hn:l.length*24≤140737488355328)(p q:Int):
  Calls Tryz.prog 77 #[.pointer (some ⟨B,0,none⟩),.int .i64 wk,.slice a l.length c,.int .i64 p,.int .i64 q] w fun e w'=>e=.returned (.int .i64 (zdr j wk l p q).2)∧JAt w' B X (zdr j wk l p q).1∧ButL [B] w.heap.size w w':=by
 have HJ:=zaa h;have hlt:=h.lt;have hBX:=h.1;have HX:=zaa hX;have HS:=zaa hS;clear hS hX;go_enter Tryz.func77,Tryz.ntmps77;go_wp2_with fail;refine(zvl a c l p q _ HS.o hn).mono ?_;rintro e w1 ⟨a2,c2,rfl,hcap,hS1,hb1,hF⟩;have HJ1:=zaa (HJ.o.below hb1);have HB1:Hid (ButL [B] w.heap.size w w1):=ButL.of_below hb1;have HSH:=zaa (hS1.hideF (X:=X) (fun b off e=>hF b off e) HX.o);have hl1:B<w1.heap.size:=HJ1.o.lt;clear hS1 hb1 hF h;by_cases he:checkE l p q=0
 ·have HE:Hid (zdr j wk l p q=({j with work:=wk,steps:=zbp l p q},0)):=by rw[Hid,zdr,if_pos he]
  rw[he];clear he;obtain⟨_,da,dc,db,dd,na,nc,nb,nd,ne,nf,sa,sc,sb,sd,se,sf,ca,cc,fa,fc,ta,tc,h1,_⟩:=id HJ1.o;have c55:w1.cell? ⟨B,55,none⟩=some (.int .i64 j.work):=zaj h1 55;have fc55:w1.frozen? ⟨B,55,none⟩=false:=frozen_of_row w1 _ _ _ _ h1;have c56:w1.cell? ⟨B,56,none⟩=some (.slice ta j.steps.length tc):=zaj h1 56;have fc56:w1.frozen? ⟨B,56,none⟩=false:=frozen_of_row w1 _ _ _ _ h1;clear h1;obtain⟨ST,hST⟩:∃ST,ST=zbp l p q:=⟨_,rfl⟩;rw[←hST] at hcap HSH HE⊢;clear hST;go_wp2;go_ret;refine⟨by rw[HE.o];rfl,?_,(HB1.o.set (.inl (by simp)) 55 _).set (.inl (by simp)) 56 _⟩;rw[HE.o];exact(HJ1.o.putWork wk).putSteps (HSH.o.ext (Ext.setL hBX 55 (.int .i64 wk))) hcap
 ·have HE:Hid (zdr j wk l p q=(j,checkE l p q)):=by rw[Hid,zdr,if_neg he]
  have he':(checkE l p q==0)=false:=by simpa using he
  clear he;generalize checkE l p q=E at *;go_wp2;go_ret;exact⟨by rw[HE.o];rfl,by rw[HE.o];exact HJ1.o,HB1.o⟩
end Go.Proofs.YtjnpndfpajjihacGreat


namespace Go.Proofs.YtjnpndfpajjihacGreat
open Go.RowKit Go.Shelf
attribute [local go_sem] Oper.semAt_some
theorem z2d {l:List Tx}{k:Nat}(h:k<l.length):l.reverse.drop k=l.getD (l.length - 1 - k) txz::l.reverse.drop (k+1):=by
 rw[List.drop_eq_getElem_cons (by simpa using h),List.getElem_reverse,List.getD,List.getElem?_eq_getElem (by omega)];rfl
theorem zwt {l:List Tx}{k:Nat}(h:k<l.length)(b:Int):zc3 (l.reverse.drop k) b=if zbm (l.getD (l.length - 1 - k) txz).rev b=true then 0 else if(zas b (l.getD (l.length - 1 - k) txz).info).isSome=true then 1 else zc3 (l.reverse.drop (k+1)) b:=by
 rw[z2d h,zc3]
theorem zjr {base:Nat}{w A B:World}{row:Option Nat}(h:Below base w A)(hb:base≤w.heap.size)(hg:A.grownBy B row)(hr:∀r,row=some r→base≤r):Below base w B:=
 h.trans ((Below.refl base A).grown hg (Nat.le_trans hb h.size) hr)
theorem zo0 {n:Nat}{tmps:Array Value}{w V:World}{b Dm:Nat}{x y:Int}(hD:b<Dm)(hmk:V.heap[Dm]?=some (.deferred (some [])))(hB:Below w.heap.size w V)(hb:V.heap[b]?=some (.cells #[.int .i64 x] 3 (0,0)))(hw:w.heap.size≤b)
  (h4:tmps.getD 4 undef=.pointer (some ⟨b,0,none⟩)) (hy:x=y):
  bodyPostM Fence.wide n Tryz.prog Tryz.f142 (fun e w'=>e=.returned (.int .i64 y)∧Below w.heap.size w w') .ret ⟨tmps,[{target:=.collected Dm,args:=#[]}]⟩ V:=by
 subst hy;refine zjy [Dm] V (by simp) (fun r hr=>by rw[List.mem_singleton.1 hr];exact hmk) ?_;have hk:(z3d [Dm] V).heap[b]?=some (.cells #[.int .i64 x] 3 (0,0)):=(znb [Dm] V b (fun r hr=>by rw[List.mem_singleton.1 hr];omega)).trans hb;have hc:=cell_of_row (z3d [Dm] V) _ 0 _ _ _ hk;have h4':tmps[4]?.getD undef=.pointer (some ⟨b,0,none⟩):=by simpa using h4
 refine⟨.int .i64 x,?_,rfl,hB.trans (znc [Dm] V (fun r hr=>by rw[List.mem_singleton.1 hr];omega) (by simp) (fun r hr=>by rw[List.mem_singleton.1 hr];exact hmk))⟩;simp[results,Tryz.results142,go_sem,h4',hc]
theorem zmn (a:Option Addr)(c:Nat)(l:List Tx)(b:Int)(w:World)(h:SegTx w a l)(hn:l.length≤maxLen):
  Calls Tryz.prog 142 #[.slice a l.length c,.int .i64 b] w fun e w'=>e=.returned (.int .i64 (zc3 l.reverse b))∧Below w.heap.size w w':=by
 have HS:=zaa h;clear h;refine(callsIn_wide (n:=9)).1 ?_;refine callsIn_of_wp_marks Tryz.func142 rfl trivial ?_ rfl;simp only[Tryz.ntmps142,List.size_toArray,List.length_cons,List.length_nil,Nat.reduceAdd,Nat.reduceSub,Array.replicate_succ,Array.replicate_zero,List.push_toArray,List.append_toArray,List.nil_append,List.cons_append]
 gi_wp2_with fail
 obtain⟨W0,hW0⟩:∃W0,W0=(w.alloc (.cells #[.int .i64 b] 3)).alloc (.cells #[.int .i64 0] 3):=⟨_,rfl⟩;have hb0:Below w.heap.size w W0:=by rw[hW0];exact zae (zab _ _) (zab _ _)
 have hs0:W0.heap.size=w.heap.size+1+1:=by rw[hW0];simp
 have hk3:W0.heap[w.heap.size]?=some (.cells #[.int .i64 b] 3 (0,0)):=by rw[hW0];exact zf9 (Below.refl _ _)
 have hz1:(w.alloc (.cells #[.int .i64 b] 3)).heap.size=w.heap.size+1:=by simp
 have hk4:W0.heap[w.heap.size+1]?=some (.cells #[.int .i64 0] 3 (0,0)):=by rw[hW0,←hz1];exact heap_alloc_new _ _
 rw[←hW0];clear hW0 hz1;have HB0:=zaa hb0;have HK3:=zaa hk3;have HK4:=zaa hk4;have HS0:=zaa hs0;clear hb0 hk3 hk4 hs0;refine⟨trivial,(z2b Fence.wide 8 trivial rfl a l.length c W0).mono ?_⟩;rintro e W2 ⟨rfl,hW2⟩;have hb2:Below W0.heap.size W0 W2:=by rw[hW2];exact zab _ _
 have cS:W2.cell? ⟨W0.heap.size,0,none⟩=some (.slice a l.length c):=by rw[hW2];simp[go_sem]
 have hs2:W2.heap.size=W0.heap.size+1:=by rw[hW2];simp
 have HBR:=zaa (zae HB0.o hb2);have HK32:=zaa (zad hb2 (by have:=HS0.o;omega) HK3.o);have HK42:=zaa (zad hb2 (by have:=HS0.o;omega) HK4.o);have HZ:Hid (W0.heap.size=w.heap.size+1+1∧W2.heap.size=w.heap.size+1+1+1):=⟨HS0.o,by rw[hs2,HS0.o]⟩;have HSEG:=zaa (HS.o.below HBR.o);have HCS:=zaa cS;clear hW2 cS hb2 hs2 HK3 HK4 HB0 HS0
 gi_wp2_with fail
 obtain⟨cc,hcnt,hval⟩:=zq7 Fence.wide 8 trivial rfl (by decide) W0.heap.size c a l hn W2 (by have:=HZ.o;omega) HCS.o HSEG.o;have HVAL:=zaa hval;clear hval
 refine zq6 (F:=Fence.wide) (n:=9) rfl (by decide) (gf:=209) (lb:=#[.pointer (some ⟨W0.heap.size,0,none⟩)]) rfl trivial (enters_of Tryz.func209 (by kernel_rfl) rfl)
  hcnt (Below.refl _ _) KeepsR.trans KeepsR.put (fun _=>rfl)
  (fun k V=>Below W2.heap.size W2 V∧zc3 l.reverse b=zc3 (l.reverse.drop k) b)
  ?own ?start
  (fun q V=>Below w.heap.size w V∧w.heap.size+1+1+1≤V.heap.size∧((q=.ret∧zc3 l.reverse b=0∧V.heap[w.heap.size+1]?=some (.cells #[.int .i64 0] 3 (0,0)))∨(q=.exit 0∧zc3 l.reverse b=1∧V.heap[w.heap.size+1]?=some (.cells #[.int .i64 0] 3 (0,0)))))
  ?ownS
  (fun k a' V=>∃B6 x11 x12 t a0 c0 a1 c1 r d,a'=⟨#[.slice a l.length c,.int .i64 b,undef,.pointer (some ⟨w.heap.size,0,none⟩),.pointer (some ⟨w.heap.size+1,0,none⟩),undef,.pointer (some ⟨B6,0,none⟩),undef,undef,.slice a l.length c,.func (.func 209) #[] #[.pointer (some ⟨W0.heap.size,0,none⟩)],x11,x12,undef,undef,undef,undef,undef,undef,undef,undef,undef,undef,undef,undef],[]⟩∧Below W2.heap.size W2 V∧zc3 l.reverse b=zc3 (l.reverse.drop k) b∧t=l.getD (l.length - 1 - k) txz∧W2.heap.size≤B6∧V.heap[B6]?=some (.cells #[.int .i64 t.seq,.slice a0 t.info.length c0,.slice a1 t.data.length c1,.slice r t.rev.length d,.bool t.h0.on,.int .i64 t.h0.left,.bool t.h1.on,.int .i64 t.h1.left,.bool t.h2.on,.int .i64 t.h2.left] 40 (0,0))∧IsTx W2 (.agg #[.int .i64 t.seq,.slice a0 t.info.length c0,.slice a1 t.data.length c1,.slice r t.rev.length d,.bool t.h0.on,.int .i64 t.h0.left,.bool t.h1.on,.int .i64 t.h1.left,.bool t.h2.on,.int .i64 t.h2.left]) t)
  ?ownJ ?assign ?body ?done ?out
 case own=>
  rintro k A B row ⟨h1,h2⟩ hgr hr;exact⟨zjr h1 (Nat.le_refl _) hgr (fun r e=>(hr r e).1),h2⟩
 case start=>exact⟨Below.refl _ _,rfl⟩
 case ownS=>
  rintro q A B row ⟨h1,h2,h3⟩ hgr hr;have hz:=HZ.o;have hkeep:B.heap[w.heap.size+1]?=A.heap[w.heap.size+1]?:=hgr.block _ (by omega) (fun e=>by have:=(hr _ e.symm).1;omega);exact⟨zjr h1 (Nat.le_refl _) hgr (fun r e=>by have:=(hr r e).1;omega),Nat.le_trans h2 hgr.size,by rw[hkeep];exact h3⟩
 case ownJ=>
  rintro k a' A B row ⟨B6,x11,x12,t,a0,c0,a1,c1,r,d,rfl,h1,h2,ht,hB6,h6,hT⟩ hgr hr;refine⟨B6,x11,x12,t,a0,c0,a1,c1,r,d,rfl,zjr h1 (Nat.le_refl _) hgr (fun r e=>(hr r e).1),h2,ht,hB6,?_,hT⟩;refine(hgr.block _ (Array.getElem?_eq_some_iff.1 h6).1 (fun e=>?_)).trans h6;obtain⟨_,o,ho,hc⟩:=hr _ e.symm;rw[h6] at ho;cases ho;cases hc
 case assign=>
  rintro lp k V K hkN ⟨h1,h2⟩ hszV hK;unfold z2c;have hv:=HVAL.o (l.length - 1 - k) (by omega);obtain⟨t,ht⟩:∃t,t=l.getD (l.length - 1 - k) txz:=⟨_,rfl⟩;rw[←ht] at hv;have hv2:=hv;obtain⟨a0,c0,a1,c1,r,d,hva,_⟩:=hv;simp only[Value.agg.injEq] at hva;rw[hva] at hv2⊢;have hal:=fun q (hq:q<V.heap.size)=>Below.heap_alloc V (.cells #[.int .i64 t.seq,.slice a0 t.info.length c0,.slice a1 t.data.length c1,.slice r t.rev.length d,.bool t.h0.on,.int .i64 t.h0.left,.bool t.h1.on,.int .i64 t.h1.left,.bool t.h2.on,.int .i64 t.h2.left] 40) q hq;have HAL:=zaa hal;have HK:=zaa hK;have HT:=zaa hv2;have HTE:=zaa ht;have HB1:=zaa h1;have HR:=zaa h2;clear hal hK hv2 hva ht h1 h2
  gi_wp2
  refine HK.o _ _ (HAL.o _ (by omega)) (HAL.o _ (by omega)) (fun q _ o ho _=>(HAL.o q (Array.getElem?_eq_some_iff.1 ho).1).trans ho) ⟨V.heap.size,_,_,t,a0,c0,a1,c1,r,d,rfl,HB1.o.alloc HB1.o.size _,HR.o,HTE.o,HB1.o.size,heap_alloc_new V _,HT.o⟩
 case body=>
  rintro lp k _ V hkN ⟨B6,x11,x12,t,a0,c0,a1,c1,r,d,rfl,h1,h2,ht,hB6,h6,hT⟩ hszV;have hrows:=(hT.below h1).rows;obtain⟨hI,_,hRv,hnI,_,hnR⟩:=hrows;have hz:=HZ.o;obtain⟨⟨y0,y1,y2,y3,y4,y5,y6,y7,y8,y9⟩,_⟩:=zai h6;have g3:=cell_of_row V _ 0 _ _ _ (zad h1 (show w.heap.size<W2.heap.size by omega) HK32.o);have k4:=zad h1 (show w.heap.size+1<W2.heap.size by omega) HK42.o;have g4:=cell_of_row V _ 0 _ _ _ k4;have f4:=frozen_of_row V _ 0 _ _ k4;have hstep:=zwt hkN b;rw[←ht,←h2] at hstep;have HST:=zaa hstep;have HB1:=zaa h1;have HI:=zaa hI;have HRV:=zaa hRv;have HK4:=zaa k4;have hsV:=h1.size;have HNI:=zaa hnI;have HNR:=zaa hnR
  have hblk:∃b' off,a=some ⟨b',off,none⟩∧b'<w.heap.size:=by
   rcases HS.o with e|⟨b',off,e,hlt,_⟩
   ·rw[e] at hkN;simp at hkN
   ·exact⟨b',off,e,hlt⟩
  have HBK:=zaa hblk;clear h1 h2 ht h6 hT hI hRv hstep hz k4 y0 y2 y4 y5 y6 y7 y8 y9 hnI hnR hblk
  gi_wp2_with fail
  refine⟨trivial,(CallsIn.inRound lp (callsIn_wide.2 (zcz r d t.rev b V HRV.o HNR.o))).mono ?_⟩;rintro e V1 ⟨rfl,rfl⟩;by_cases hA:zbm t.rev b=true
  ·have HE:Hid (zc3 l.reverse b=0):=by rw[Hid,HST.o,if_pos hA]
   rw[hA];clear hA HST
   gi_wp2
   have hz:=HZ.o;obtain⟨b',off,hba,hb'⟩:=HBK.o;refine⟨⟨Below.heap_setCell _ _ _ _ (by simp only;omega),Below.heap_setCell _ _ _ _ (by simp only;omega)⟩,fun q hq o ho _=>(Below.heap_setCell _ _ _ _ ?_).trans ho,(zae HBR.o HB1.o).setCell (p:=⟨w.heap.size+1,0,none⟩) (by simp only;omega) _,by simp only[World.setCell,Array.size_modify];omega,.inl ⟨rfl,HE.o,heap_setCell_same _ _ 0 _ _ _ HK4.o⟩⟩;rcases hq with e|e
   ·rw[e];simp only;omega
   ·rw[e,hba];simp only[zyf];omega
  ·have hA':zbm t.rev b=false:=by simpa using hA
   rw[hA']
   gi_wp2_with fail
   refine⟨trivial,(CallsIn.inRound lp (callsIn_wide.2 (zkv a0 c0 t.info b V HI.o HNI.o))).mono ?_⟩;rintro e V1 ⟨rfl,hb1⟩;by_cases hG:(zas b t.info).isSome=true
   ·have HE:Hid (zc3 l.reverse b=1):=by rw[Hid,HST.o,if_neg hA,if_pos hG]
    have HB2:=zaa hb1;rw[hG];clear hA hA' hG HST hb1
    gi_wp2
    have hz:=HZ.o;have hs1:=HB2.o.size;exact⟨⟨HB2.o.block _ (by omega),HB2.o.block _ (by omega)⟩,fun q _ o ho _=>zad HB2.o (Array.getElem?_eq_some_iff.1 ho).1 ho,zae (zae HBR.o HB1.o) HB2.o,by omega,.inr ⟨rfl,HE.o,zad HB2.o (by omega) HK4.o⟩⟩
   ·have HE:Hid (zc3 l.reverse b=zc3 (l.reverse.drop (k+1)) b):=by rw[Hid,HST.o,if_neg hA,if_neg hG]
    have hG':(zas b t.info).isSome=false:=by simpa using hG
    have HB2:=zaa hb1;rw[hG'];clear hA hA' hG hG' HST hb1
    gi_wp2
    have hz:=HZ.o;exact⟨⟨HB2.o.block _ (by omega),HB2.o.block _ (by omega)⟩,fun q _ o ho _=>zad HB2.o (Array.getElem?_eq_some_iff.1 ho).1 ho,zae HB1.o HB2.o,HE.o⟩
 case done=>
  rintro Dm V hD ⟨h1,h2⟩ hK;have hz:=HZ.o;have hsV:=h1.size;have k4:=zad h1 (show w.heap.size+1<W2.heap.size by omega) HK42.o;have g4:=cell_of_row V _ 0 _ _ _ k4;have f4:=frozen_of_row V _ 0 _ _ k4;have HE:Hid (zc3 l.reverse b=1):=by rw[Hid,h2,List.drop_of_length_le (by simp)];rfl
  have HBV:=zaa (zae HBR.o h1);have HK4:=zaa k4;have HMK:=zaa hK;have hDlt:=(Array.getElem?_eq_some_iff.1 hK).1;clear h1 h2 hK k4
  gi_wp2
  refine zo0 (b:=w.heap.size+1) (by omega) ((Below.heap_setCell _ _ _ _ (by simp only;omega)).trans HMK.o) (HBV.o.setCell (p:=⟨w.heap.size+1,0,none⟩) (by simp only;omega) _) (heap_setCell_same _ _ 0 _ _ _ HK4.o) (by omega) rfl HE.o.symm
 case out=>
  rintro q Dm V hD ⟨h1,h2,h3⟩ hK;have hz:=HZ.o;rcases h3 with⟨rfl,h4,h5⟩|⟨rfl,h4,h5⟩
  ·have HE:=zaa h4
   have HBV:=zaa h1;have HK4:=zaa h5;have HMK:=zaa hK;clear h4 h1 h5 hK
   gi_wp2
   exact zo0 (b:=w.heap.size+1) (by omega) HMK.o HBV.o HK4.o (by omega) rfl HE.o.symm
  ·have g4:=cell_of_row V _ 0 _ _ _ h5
   have f4:=frozen_of_row V _ 0 _ _ h5;have HE:=zaa h4;have HBV:=zaa h1;have HK4:=zaa h5;have HMK:=zaa hK;clear h4 h1 h5 hK
   gi_wp2
   exact zo0 (b:=w.heap.size+1) (by omega) ((Below.heap_setCell _ _ _ _ (by simp only;omega)).trans HMK.o) (HBV.o.setCell (p:=⟨w.heap.size+1,0,none⟩) (by simp only;omega) _) (heap_setCell_same _ _ 0 _ _ _ HK4.o) (by omega) rfl HE.o.symm
end Go.Proofs.YtjnpndfpajjihacGreat

