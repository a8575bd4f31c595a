/-
  
-/
import Derived.Test.YtjnpndfpajjihacGreatGrTopOrdered20
import Derived.Test.YtjnpndfpajjihacGreatXCheck
import Derived.Test.YtjnpndfpajjihacGreatGrTopOrdered28
import Derived.Test.YtjnpndfpajjihacGreatEPure
import Derived.Test.YtjnpndfpajjihacGreatGrTopOrdered37
import Derived.Test.YtjnpndfpajjihacGreatXFew
set_option maxRecDepth 100000
set_option maxHeartbeats 40000000
namespace Go.Proofs.YtjnpndfpajjihacGreat
open Go.RowKit
def z5j (n:Nat)(t:Tx):Prop:=t.info.length≤n∧t.rev.length≤20*n∧t.data=[]∧t.h0=⟨false,0⟩∧t.h1=⟨false,0⟩∧t.h2=⟨false,0⟩
theorem zwl{m:Mk}(h:goodM m=0):m.tags.length≤10∧m.blocks.length≤20:=by
 unfold goodM at h;split at h
 ·cases h
 ·split at h
  ·cases h
  ·split at h
   ·cases h
   ·rename_i B;split at h
    ·cases h
    ·rename_i A;constructor
     ·by_cases e:m.kind=2
      ·have:¬(m.tags.length<1∨10<m.tags.length):=fun x=>A (.inl ⟨e,x⟩);omega
      ·have:¬m.tags≠[]:=fun x=>B (.inr (.inl ⟨e,x⟩));simp only[ne_eq,Decidable.not_not]at this;rw[this];exact Nat.zero_le _
     ·by_cases e:m.kind=3
      ·have:¬(m.blocks.length<1∨20<m.blocks.length):=fun x=>A (.inr (.inl ⟨e,x⟩));omega
      ·have:¬m.blocks≠[]:=fun x=>B (.inr (.inr ⟨e,x⟩));simp only[ne_eq,Decidable.not_not]at this;rw[this];exact Nat.zero_le _
theorem zzh(log:List ByteArray)(seq:Int):∀(f i:Nat) (t:Tx) (n:Nat) (u:Tx),log.length - i≤f→i≤log.length→z5j i t→zfb log seq i t=some (n,u)→z5j log.length u∧u.seq=t.seq:=by
 intro f
 induction f with
 |zero=>intro i t n u B F A h;rw[zfb,dif_neg (by omega)]at h;cases h
 |succ f ih=>
  intro i t n u B F A h;rw[zfb]at h;split at h
  ·split at h
   ·cases h
   ·rename_i D;split at h
    ·cases h;obtain⟨a,b,c⟩:=A;exact⟨⟨by omega,by omega,c⟩,rfl⟩
    ·split at h
     ·rename_i C
      have E:(zas (log.getD i ByteArray.empty)).2=0:=by
       by_cases hx:(zas (log.getD i ByteArray.empty)).2=0
       ·exact hx
       ·exact absurd (.inl hx) D
      have hm:=zwl (zla E);have:=ih _ _ _ _ (by omega) C ?_ h
      ·exact⟨this.1,this.2⟩
      ·obtain⟨a,b,c⟩:=A;refine⟨?_,?_,c⟩
       ·show(t.info++copiesAt log (i+1) _).length≤_;rw[List.length_append,zdt];omega
       ·show(t.rev++_).length≤_;rw[List.length_append];omega
     ·cases h
  ·cases h
theorem znx(log:List ByteArray):∀(f pos:Nat) (seq:Int) (acc:List Tx),log.length - pos≤f→(∀t∈acc,z5j log.length t)→seq≤2147483647→(∀t∈(scanP log pos seq acc).1,z5j log.length t)∧seq+((scanP log pos seq acc).1.length:Int)≤2147483647+(acc.length:Int)∧(pos≤log.length→(scanP log pos seq acc).2≤log.length):=by
 intro f
 induction f with
 |zero=>
  intro pos seq acc D A E;rw[scanP];split
  ·rw[zfb,dif_neg (by omega)];exact⟨A,by simp;omega,fun h=>h⟩
  ·exact⟨A,by simp;omega,fun h=>h⟩
 |succ f ih=>
  intro pos seq acc D A E;rw[scanP];split
  ·split
   ·exact⟨A,by simp;omega,fun h=>h⟩
   ·rename_i h2 n t C;have hb:=zdl log seq _ pos _ n t (Nat.le_refl _) C;have F:=(zzh log seq _ pos (zcv seq) n t (Nat.le_refl _) (by omega) ⟨Nat.zero_le _,Nat.zero_le _,rfl,rfl,rfl,rfl⟩ C).1
    have:=ih n (seq+1) (acc++[t]) (by omega) (fun x hx=>by
     rcases List.mem_append.1 hx with h|h
     ·exact A x h
     ·rw[List.mem_singleton.1 h];exact F) (by omega)
    refine⟨this.1,?_,fun _=>this.2.2 hb.2⟩;have B:=this.2.1;rw[List.length_append,List.length_singleton]at B
    push_cast at B⊢
    omega
  ·exact⟨A,by simp;omega,fun h=>h⟩
theorem zhr{d:Dk}(h:scanE d=0):za3 d=true∧(1≤(zaq d).seq∧(zaq d).seq≤2147483647)∧0≤(zaq d).pos∧(zaq d).pos≤23∧zas (zal d 0)=(zaq d,0)∧(zaq d).kind=1:=by
 unfold scanE at h;split at h
 ·rename_i D;exact absurd h D
 ·rename_i D;split at h
  ·cases h
  ·rename_i E
   have F:(zas (zal d 0)).2=0:=by
    by_cases A:(zas (zal d 0)).2=0
    ·exact A
    ·exact absurd (.inl A) E
   have I:(zaq d).kind=1:=by
    by_cases A:(zaq d).kind=1
    ·exact A
    ·exact absurd (.inr A) E
   have B:=zla F
   have C:readE d 0=0:=by
    by_cases A:readE d 0=0
    ·exact A
    ·exact absurd A D
   refine⟨?_,?_⟩
   ·unfold readE at C;split at C
    ·rename_i A;exact(Bool.and_eq_true_iff.1 A).1
    ·cases C
   ·have h6:goodM (zaq d)=0:=B;unfold goodM at B;split at B
    ·cases B
    ·split at B
     ·cases B
     ·rename_i A;have hy:¬((zaq d).seq<1∨2147483647<(zaq d).seq∨(zaq d).pos<0∨23<(zaq d).pos):=A;refine⟨by omega,by omega,by omega,?_,I⟩;exact Prod.ext rfl F
theorem zqk{d:Dk}(h:scanE d=0):(∀t∈fndL d,z5j 24 t)∧(1≤fndN d∧fndN d≤2147483647)∧0≤fndP d∧fndP d≤23:=by
 obtain⟨_,⟨q1,B⟩,p1,p2,_,_⟩:=zhr h;have:=znx (logOf d (zaq d).pos) 24 0 (zaq d).seq [] (by rw[za7];omega) (fun t ht=>by cases ht) B;rw[za7]at this;rw[fndL,fndN,fndP,if_pos h,if_pos h,if_pos h];have A:(zaq d).seq+((zbw d).1.length:Int)≤2147483647:=by have:=this.2.1;simpa[zbw] using this
 exact⟨this.1,⟨by omega,A⟩,by omega,by omega⟩
theorem zkh{l:List Tx}(h:∀t∈l,zba t=true)(b:Int):∀s,newestF l b=some s→zbb s=true:=by
 have key:∀(l:List Tx) (o:Option ByteArray),(∀t∈l,zba t=true)→(∀s,o=some s→zbb s=true)→∀s,l.foldl (zcu b) o=some s→zbb s=true:=by
  intro l
  induction l with
  |nil=>intro o _ D s A;exact D s A
  |cons t l ih=>
   intro o F D s A;rw[List.foldl_cons]at A;refine ih _ (fun x C=>F x (by simp[C])) ?_ s A;intro u B;unfold zcu at B;split at B
   ·have I:=((za9 t).1 (F t (by simp))).2.1.1
    have:∀m:List (Int×ByteArray),zb6 m=true→zai b m=some u→zbb u=true:=by
     intro m
     induction m with
     |nil=>intro _ h;cases h
     |cons y m ih2=>
      intro E C;simp only[zb6,List.all_cons,Bool.and_eq_true]at E;rw[zai]at C;split at C
      ·cases C;exact E.1
      ·exact ih2 E.2 C
    exact this _ I B
   ·split at B
    ·cases B
    ·exact D u B
 exact key l none h (fun s A=>by cases A)
theorem zoy{f:Int→Option ByteArray}{n:Nat}{x:Int×ByteArray}(h:x∈asN f n):0≤x.1∧x.1<n∧f x.1=some x.2:=by
 induction n with
 |zero=>simp[asN]at h
 |succ n ih=>
  rw[zee]at h;rcases List.mem_append.1 h with h|h
  ·have:=ih h;exact⟨this.1,by omega,this.2.2⟩
  ·unfold zpw at h
   cases hf:f (n:Int) with
   |none=>rw[hf]at h;simp at h
   |some s=>rw[hf]at h;simp at h;subst h;exact⟨by simp,by simp;omega,hf⟩
theorem z2m{d:Dk}(h:scanE d=0)(hg:∀t∈fndL d,zba t=true):checkE (newestL (fndL d)) (fndP d) (fndN d)=0:=by
 obtain⟨_,⟨q1,q2⟩,p1,p2⟩:=zqk h
 have E:goodM (zbq (fndP d) (fndN d))=0:=by
  unfold goodM zbq;rw[if_neg (by simp),if_neg (by simp;omega),if_neg (by simp),if_neg];rintro(h|h|h|h)
  ·have:=h.1;simp at this
  ·have:=h.1;simp at this
  ·revert h;simp[zbk,za1]
  ·revert h;simp[zbk,za1]
 rw[checkE,E,if_neg (by simp),if_neg];intro F;obtain⟨x,A,B⟩:=List.any_eq_true.1 F;obtain⟨a,b,c⟩:=zoy A;have D:=zkh hg x.1 x.2 c;have C:x.2.size=32:=by have:=D;simp[zbb]at this;omega
 revert B
 simp[zg3,zap,C];omega
theorem zzi(n:Nat)(hn:n<37):∀(l:List St) (d:Dk),za3 d=true→(∀s∈l,s.1≠2→s.2.1≠(n:Int))→zal (runK d l) n=zal d n∧za3 (runK d l)=true:=by
 intro l
 induction l with
 |nil=>intro d A _;exact⟨rfl,A⟩
 |cons s l ih=>
  intro d A B
  have key:zal (zbh d s) n=zal d n∧za3 (zbh d s)=true:=by
   unfold zbh;by_cases hf:s.1=2
   ·rw[if_pos hf,zcp,if_pos A];exact⟨znp A hn,zhp A⟩
   ·rw[if_neg hf];by_cases he:zid d s.2.1 s.2.2=0
    ·exact⟨(zwa he n).2 (fun e=>B s (by simp) hf e.symm),zd7 he⟩
    ·rw[z4c he];exact⟨rfl,A⟩
  have:=ih (zbh d s) key.2 (fun x hx=>B x (by simp[hx]));exact⟨this.1.trans key.1,this.2⟩
structure Ac where
 kind:Int
 h:Int
 b:Int
 n:Int
 text:ByteArray
structure Rp where
 code:Int
 n:Int
 text:ByteArray
def zat (e:Int):Rp:=⟨e,0,⟨#[]⟩⟩
def vAc (a:Ac):Value:=.agg #[.int .i64 a.kind,.int .i64 a.h,.int .i64 a.b,.int .i64 a.n,.string a.text]
def vRp (r:Rp):Value:=.agg #[.int .i64 r.code,.int .i64 r.n,.string r.text]
def upd (f:Nat→Int)(b x:Int):Nat→Int:=fun k=>if(k:Int)=b then x else f k
def zm2 (j:Jn)(t:Tx)(e:Int):Jn×Rp:=if e=0 then({j with now:=t},zat 0) else(j,zat e)
def zg8 (j:Jn)(a:Ac):Jn×Rp:=
 if changeE j.now a.h a.b (fitT a.text)=0 then
  if j.role a.b.toNat=2 then(j,zat 8) else({j with role:=upd j.role a.b 1,now:=zaf j.now a.h a.b (fitT a.text)},zat 0)
 else(j,zat (changeE j.now a.h a.b (fitT a.text)))
def zjz (j:Jn)(a:Ac):Jn×Rp:=
 if fillE j.now a.h a.b (fitT a.text)=0 then
  if j.role a.b.toNat=1 then(j,zat 8) else if j.last<j.freed a.b.toNat then(j,zat 9)
  else({j with role:=upd j.role a.b 2,now:=zao j.now a.h a.b (fitT a.text)},zat 0)
 else(j,zat (fillE j.now a.h a.b (fitT a.text)))
def zey (j:Jn)(a:Ac):Jn×Rp:=
 if revokeE j.now a.h a.b=0 then
  if j.role a.b.toNat=0 then(j,zat 8)
  else({j with role:=upd j.role a.b 0,freed:=upd j.freed a.b (zag j.now a.h a.b).seq,now:=zag j.now a.h a.b},zat 0)
 else(j,zat (revokeE j.now a.h a.b))
def textJ (j:Jn)(b:Int):ByteArray×Int:=
 match zai b j.now.info with
 |some s=>(s,0)
 |none=>match zai b j.now.data with
  |some s=>(s,0)
  |none=>match zai b j.sealed.info with
   |some s=>(s,0)
   |none=>match zai b j.sealed.data with
    |some s=>(s,0)
    |none=>match zai b (newestL j.done) with
     |some s=>(s,0)
     |none=>(zal j.disk (25+b),readE j.disk (25+b))
def zj0 (j:Jn)(b:Int):Rp:=
 if b<0∨11<b then zat 4
 else if(textJ j b).2=0 then⟨0,j.role b.toNat,(textJ j b).1⟩ else zat (textJ j b).2
def zfd (t:Tx):Bool:=decide (t.info.length=0)&&decide (t.data.length=0)&&decide (t.rev.length=0)
def zcx (j:Jn):Jn×Rp:=
 if j.steps≠[]∨zia j.now=true then(j,zat 9)
 else if zfd j.now=true then(j,zat 4)
 else if 2147483645<j.now.seq then(j,zat 11)
 else if sealE j.rh j.ru j.now=0 then
  ({j with rh:=zcl j.rh j.ru j.now,ru:=zce j.rh j.ru j.now,sealed:=j.now,now:=zcv (j.now.seq+1),work:=6,steps:=commitS j.rh j.ru j.now},⟨0,j.now.seq,⟨#[]⟩⟩)
 else(j,zat (sealE j.rh j.ru j.now))
def zdx (j:Jn)(work:Int)(l:List (Int×ByteArray))(p q:Int):Jn×Int:=
 if checkE l p q=0 then({j with work:=work,steps:=zbr l p q},0) else(j,checkE l p q)
def zg9 (j:Jn):Jn×Rp:=
 if j.steps≠[] then(j,zat 9)
 else if j.done=[] then(j,zat 4)
 else((zdx j 7 (newestL j.done) j.rh (j.last+1)).1,zat (zdx j 7 (newestL j.done) j.rh (j.last+1)).2)
def zhs (j:Jn):Jn×Rp:=({j with sealed:=zcv 0,done:=j.done++[j.sealed],last:=j.sealed.seq},⟨0,j.sealed.seq,⟨#[]⟩⟩)
def zcf:List Tx→Int→Int
 |[],_=>1
 |t::l,b=>if zay t.rev b=true then 0 else if(zai b t.info).isSome=true then 1 else zcf l b
def zfe (d:Dk)(p q:Int):Jn:=⟨0,d,p,0,q - 1,false,fun _=>0,fun _=>0,zcv q,zcv 0,[],[],0,0,0,[]⟩
def zlg (j:Jn):Jn:={zfe j.disk j.fP j.fN with acts:=j.acts,role:=fun k=>zcf j.fL.reverse k}
def zb4 (j:Jn):Jn×Rp:=
 if j.work=6 then zhs j
 else if j.work=7 then({j with done:=[],ru:=0},zat 0)
 else if j.work=11 then(zlg j,zat 0)
 else(j,zat 0)
def zjc (j:Jn):Jn×Rp:=
 match j.steps with
 |[]=>(j,zat 4)
 |s::r=>
  if doneE j.disk s=0 then
   if r=[] then zb4 {j with disk:=zbh j.disk s,steps:=r} else({j with disk:=zbh j.disk s,steps:=r},zat 0)
  else(j,zat (doneE j.disk s))
def zjd (j:Jn)(q:Int):Jn×Rp:=
 if crashE j.disk q=0 then(⟨j.acts,crashK j.disk q,0,0,j.last,true,fun _=>0,fun _=>0,zcv 0,zcv 0,[],[],0,0,0,[]⟩,zat 0)
 else(j,zat (crashE j.disk q))
def zb8 (j:Jn):Jn×Rp:=
 if j.down=false∨j.steps≠[] then(j,zat 9)
 else if scanE j.disk=0 then
  if checkE (newestL (fndL j.disk)) (fndP j.disk) (fndN j.disk)=0 then
   ({j with work:=11,steps:=zbr (newestL (fndL j.disk)) (fndP j.disk) (fndN j.disk),fL:=fndL j.disk,fN:=fndN j.disk,fP:=fndP j.disk},zat 0)
  else(j,zat (checkE (newestL (fndL j.disk)) (fndP j.disk) (fndN j.disk)))
 else(j,zat (scanE j.disk))
def za5 (j:Jn)(a:Ac):Jn×Rp:=
 if a.kind=1 then zm2 j (zaw j.now a.h a.n (24 - j.ru)) (zbc j.now a.h a.n (24 - j.ru))
 else if a.kind=5 then zm2 j (zb3 j.now a.h) (zda j.now a.h)
 else if a.kind=2 then zg8 j a
 else if a.kind=3 then zjz j a
 else if a.kind=4 then zey j a
 else if a.kind=6 then zcx j
 else if a.kind=7 then zg9 j
 else(j,zj0 j a.b)
def zk2 (j:Jn)(a:Ac):Jn×Rp:=
 if a.kind<1∨11<a.kind then(j,zat 3)
 else if a.kind=8 then zjc j
 else if a.kind=10 then zjd j a.n
 else if a.kind=11 then zb8 j
 else if j.down=true then(j,zat 10)
 else za5 j a
def doJ (j:Jn)(a:Ac):Jn×Rp:=if 400≤j.acts then(j,zat 11) else zk2 {j with acts:=j.acts+1} a
def zwr:Jn:=zfe ⟨encT (zbq 0 1)::List.replicate 36 (fitT ⟨#[]⟩),[]⟩ 0 1
inductive Move (j:Jn)(a:Ac):Jn→Rp→Prop
 |no (e:Int) (he:e≠0):Move j a j (zat e)
 |read (hd:j.down=false) (hk:a.kind=9) (hb:0≤a.b∧a.b≤11) (ht:(textJ j a.b).2=0):Move j a j ⟨0,j.role a.b.toNat,(textJ j a.b).1⟩
 |begin (hd:j.down=false) (hk:a.kind=1) (he:zbc j.now a.h a.n (24 - j.ru)=0):Move j a {j with now:=zaw j.now a.h a.n (24 - j.ru)} (zat 0)
 |stop (hd:j.down=false) (hk:a.kind=5) (he:zda j.now a.h=0):Move j a {j with now:=zb3 j.now a.h} (zat 0)
 |write (hd:j.down=false) (hk:a.kind=2) (he:changeE j.now a.h a.b (fitT a.text)=0) (hr:j.role a.b.toNat≠2):Move j a {j with role:=upd j.role a.b 1,now:=zaf j.now a.h a.b (fitT a.text)} (zat 0)
 |fill (hd:j.down=false) (hk:a.kind=3) (he:fillE j.now a.h a.b (fitT a.text)=0) (hr:j.role a.b.toNat≠1) (hf:j.freed a.b.toNat≤j.last):Move j a {j with role:=upd j.role a.b 2,now:=zao j.now a.h a.b (fitT a.text)} (zat 0)
 |revoke (hd:j.down=false) (hk:a.kind=4) (he:revokeE j.now a.h a.b=0) (hr:j.role a.b.toNat≠0):Move j a {j with role:=upd j.role a.b 0,freed:=upd j.freed a.b (zag j.now a.h a.b).seq,now:=zag j.now a.h a.b} (zat 0)
 |commit (hd:j.down=false) (hk:a.kind=6) (hs:j.steps=[]) (ho:zia j.now=false) (hm:zfd j.now=false) (hq:j.now.seq≤2147483645) (he:sealE j.rh j.ru j.now=0):
   Move j a {j with rh:=zcl j.rh j.ru j.now,ru:=zce j.rh j.ru j.now,sealed:=j.now,now:=zcv (j.now.seq+1),work:=6,steps:=commitS j.rh j.ru j.now} ⟨0,j.now.seq,⟨#[]⟩⟩
 |check (hd:j.down=false) (hk:a.kind=7) (hs:j.steps=[]) (hn:j.done≠[]) (he:checkE (newestL j.done) j.rh (j.last+1)=0):
   Move j a {j with work:=7,steps:=zbr (newestL j.done) j.rh (j.last+1)} (zat 0)
 |step (hk:a.kind=8) (s:St) (r:List St) (hs:j.steps=s::r) (he:doneE j.disk s=0) (hr:r≠[]):Move j a {j with disk:=zbh j.disk s,steps:=r} (zat 0)
 |last (hk:a.kind=8) (s:St) (hs:j.steps=[s]) (he:doneE j.disk s=0):Move j a (zb4 {j with disk:=zbh j.disk s,steps:=[]}).1 (zb4 {j with disk:=zbh j.disk s,steps:=[]}).2
 |crash (hk:a.kind=10) (he:crashE j.disk a.n=0):Move j a ⟨j.acts,crashK j.disk a.n,0,0,j.last,true,fun _=>0,fun _=>0,zcv 0,zcv 0,[],[],0,0,0,[]⟩ (zat 0)
 |back (hk:a.kind=11) (hd:j.down=true) (hs:j.steps=[]) (hE:scanE j.disk=0) (hc:checkE (newestL (fndL j.disk)) (fndP j.disk) (fndN j.disk)=0):
   Move j a {j with work:=11,steps:=zbr (newestL (fndL j.disk)) (fndP j.disk) (fndN j.disk),fL:=fndL j.disk,fN:=fndN j.disk,fP:=fndP j.disk} (zat 0)
theorem zu4{j:Jn}{a:Ac}{t:Tx}{e:Int}(h:e=0→Move j a {j with now:=t} (zat 0)):Move j a (zm2 j t e).1 (zm2 j t e).2:=by
 rw[zm2];split
 ·rename_i A;exact h A
 ·rename_i A;exact .no _ A
theorem zqy{j:Jn}{a:Ac}(hd:j.down=false)(h1:1≤a.kind)(h2:a.kind≤11)(h8:a.kind≠8)(h10:a.kind≠10)(h11:a.kind≠11):Move j a (za5 j a).1 (za5 j a).2:=by
 rw[za5];split
 ·rename_i B;exact zu4 fun A=>.begin hd B A
 split
 ·rename_i B;exact zu4 fun A=>.stop hd B A
 split
 ·rename_i B;rw[zg8];split
  ·rename_i A;split
   ·exact .no _ (by decide)
   ·rename_i C;exact .write hd B A C
  ·rename_i A;exact .no _ A
 split
 ·rename_i B;rw[zjz];split
  ·rename_i A;split
   ·exact .no _ (by decide)
   ·rename_i C;split
    ·exact .no _ (by decide)
    ·rename_i hf;exact .fill hd B A C (by omega)
  ·rename_i A;exact .no _ A
 split
 ·rename_i B;rw[zey];split
  ·rename_i A;split
   ·exact .no _ (by decide)
   ·rename_i C;exact .revoke hd B A C
  ·rename_i A;exact .no _ A
 split
 ·rename_i B;rw[zcx];split
  ·exact .no _ (by decide)
  ·rename_i hb;simp only[not_or,ne_eq,Decidable.not_not,Bool.not_eq_true]at hb;split
   ·exact .no _ (by decide)
   ·rename_i F;split
    ·exact .no _ (by decide)
    ·rename_i hq;split
     ·rename_i A;exact .commit hd B hb.1 hb.2 (by simpa using F) (by omega) A
     ·rename_i A;exact .no _ A
 split
 ·rename_i B;rw[zg9];split
  ·exact .no _ (by decide)
  ·rename_i I;split
   ·exact .no _ (by decide)
   ·rename_i E;by_cases A:checkE (newestL j.done) j.rh (j.last+1)=0
    ·rw[zdx,if_pos A];exact .check hd B (by simpa using I) E A
    ·rw[zdx,if_neg A];exact .no _ A
 ·rename_i k1 k5 k2 k3 k4 k6 k7;have B:a.kind=9:=by omega
  rw[zj0];split
  ·exact .no _ (by decide)
  ·rename_i hb;split
   ·rename_i D;exact .read hd B (by omega) D
   ·rename_i D;exact .no _ D
theorem zzo(j:Jn)(a:Ac):Move j a (zk2 j a).1 (zk2 j a).2:=by
 rw[zk2];split
 ·exact .no _ (by decide)
 rename_i C;split
 ·rename_i B;unfold zjc
  cases hs:j.steps with
  |nil=>exact .no _ (by decide)
  |cons s r=>
   by_cases A:doneE j.disk s=0
   ·by_cases C:r=[]
    ·subst C;simp only[A,if_true];exact .last B s hs A
    ·simp only[A,if_true,C,if_false];exact .step B s r hs A C
   ·simp only[A,if_false];exact .no _ A
 split
 ·rename_i B;rw[zjd];split
  ·rename_i A;exact .crash B A
  ·rename_i A;exact .no _ A
 split
 ·rename_i B;rw[zb8];split
  ·exact .no _ (by decide)
  ·rename_i hb;simp only[not_or,ne_eq,Decidable.not_not,Bool.not_eq_false]at hb;split
   ·rename_i D;split
    ·rename_i E;exact .back B hb.1 hb.2 D E
    ·rename_i E;exact .no _ E
   ·rename_i D;exact .no _ D
 split
 ·exact .no _ (by decide)
 ·rename_i J I F hd;exact zqy (by simpa using hd) (by omega) (by omega) J I F
def Only (d:Dk)(n:Nat)(v:ByteArray):Prop:=∀s∈ways d n,s=v
theorem zq1(l:List ByteArray)(n:Nat):ways ⟨l,[]⟩ n=[l.getD n ByteArray.empty]:=rfl
theorem zo5{d:Dk}{m:Int}{t:ByteArray}(h:zid d m t=0)(n:Nat):ways (zhn d m t) n=if m=(n:Int) then ways d n++[t] else ways d n:=by
 rw[zew h,ways,ways];show d.safe.getD n ByteArray.empty::zck n (d.wr++[(m,t)])=_;rw[zg1];by_cases e:m=(n:Int)
 ·rw[if_pos e,if_pos e];rfl
 ·rw[if_neg e,if_neg e]
theorem zq2{d:Dk}(n:Nat):zci d n∈ways d n:=by
 have:∀(l:List (Int×ByteArray)) (z:ByteArray),zeb n z l∈z::zck n l:=by
  intro l
  induction l with
  |nil=>intro z;simp[zeb]
  |cons x l ih=>
   intro z;rw[zeb,zck];by_cases e:x.1=(n:Int)
   ·rw[if_pos e,if_pos e];exact List.mem_cons_of_mem _ (ih x.2)
   ·rw[if_neg e,if_neg e];exact ih z
 have h:=this d.wr (d.safe.getD n ByteArray.empty);rw[zci,Int.toNat_natCast];exact h
theorem Only.last{d:Dk}{n:Nat}{v:ByteArray}(h:Only d n v):zci d n=v:=h _ (zq2 n)
theorem Only.read{d:Dk}{n:Nat}{v:ByteArray}(h:Only d n v)(hg:za3 d=true)(hn:n<37):zal d n=v:=by
 rw[zal,hg,zhq hn];exact h.last
theorem zl3{l:List ByteArray}(hg:za3 ⟨l,[]⟩=true){n:Nat}(hn:n<37):Only ⟨l,[]⟩ n (zal ⟨l,[]⟩ n):=by
 intro s A;rw[zq1]at A;rw[zg2 hg hn]
 simpa using A
theorem zdo{d:Dk}(hg:za3 d=true){n:Nat}(hn:n<37):Only (zcp d) n (zal d n):=by
 rw[zcp,if_pos hg,←znp hg hn];exact zl3 (zhp hg) hn
theorem zeg{d:Dk}{m:Int}{t:ByteArray}(hg:za3 d=true)(hp:zb0 m=true)(hf:zbb t=true)(hl:d.wr.length<200):zid d m t=0:=by
 rw[zid,hg,hp,hf];simp;omega
theorem zo6{d:Dk}(hg:za3 d=true):(zcp d).wr=[]:=by rw[zcp,if_pos hg]
theorem zu7{d:Dk}(hg:za3 d=true):za3 (zcp d)=true:=by rw[zcp,if_pos hg];exact zhp hg
def zdy (s:St):Prop:=s.1=2∨(zb0 s.2.1=true∧zbb s.2.2=true)
theorem zha{d:Dk}{s:St}(hs:zdy s)(hg:za3 d=true)(hl:d.wr.length<200):za3 (zbh d s)=true∧(zbh d s).wr.length≤d.wr.length+1:=by
 unfold zbh;by_cases h2:s.1=2
 ·rw[if_pos h2];exact⟨zu7 hg,by rw[zo6 hg];simp⟩
 ·rw[if_neg h2];obtain⟨B,C⟩:=hs.resolve_left h2;have A:=zeg hg B C hl;refine⟨zd7 A,?_⟩;rw[zew A];simp
theorem zje{d:Dk}{s:St}(hs:zdy s)(hg:za3 d=true)(hl:d.wr.length<200){n:Nat}(hn:n<37){v:ByteArray}(hv:Only d n v)(hne:s.1≠2→s.2.1≠(n:Int)):Only (zbh d s) n v:=by
 unfold zbh;by_cases h2:s.1=2
 ·rw[if_pos h2];have:=zdo hg hn
  rwa [hv.read hg hn]at this
 ·rw[if_neg h2];obtain⟨B,C⟩:=hs.resolve_left h2;intro x A;rw[zo5 (zeg hg B C hl),if_neg (hne h2)]at A;exact hv x A
theorem zcs:∀(l:List St) (d:Dk),(∀s∈l,zdy s)→za3 d=true→d.wr.length+l.length≤200→za3 (runK d l)=true∧(runK d l).wr.length≤d.wr.length+l.length:=by
 intro l
 induction l with
 |nil=>intro d _ A _;exact⟨A,by simp[runK]⟩
 |cons s l ih=>
  intro d C A D;simp only[List.length_cons]at D;have E:=zha (C s (by simp)) A (by omega);have B:=ih (zbh d s) (fun x hx=>C x (by simp[hx])) E.1 (by omega);refine⟨B.1,?_⟩;have:=B.2;simp only[List.length_cons];show(runK (zbh d s) l).wr.length≤_;omega
theorem zht{n:Nat}(hn:n<37){v:ByteArray}:∀(l:List St) (d:Dk),(∀s∈l,zdy s)→za3 d=true→d.wr.length+l.length≤200→Only d n v→(∀s∈l,s.1≠2→s.2.1≠(n:Int))→Only (runK d l) n v:=by
 intro l
 induction l with
 |nil=>intro d _ _ _ C _;exact C
 |cons s l ih=>
  intro d B D E C A;simp only[List.length_cons]at E;have F:=zha (B s (by simp)) D (by omega);exact ih (zbh d s) (fun x hx=>B x (by simp[hx])) F.1 (by omega) (zje (B s (by simp)) D (by omega) hn C (A s (by simp))) (fun x hx=>A x (by simp[hx]))
theorem zcb(d:Dk)(l r:List St):runK d (l++r)=runK (runK d l) r:=List.foldl_append
def zo7 (cs:List (Int×ByteArray)):Prop:=(cs.map (·.1)).Nodup∧(∀x∈cs,0≤x.1∧x.1≤11∧zbb x.2=true)∧cs.length≤12
theorem zd5{cs:List (Int×ByteArray)}(h:∀x∈cs,0≤x.1∧x.1≤11∧zbb x.2=true):(∀s∈homeS cs,zdy s)∧∀n:Nat,n<25→∀s∈homeS cs,s.1≠2→s.2.1≠(n:Int):=by
 have key:∀s∈homeS cs,(∃x∈cs,s=zbl (25+x.1) x.2)∨s=zb1:=by
  intro s A;rw[homeS]at A;rcases List.mem_append.1 A with h2|h2
  ·obtain⟨x,B,rfl⟩:=List.mem_map.1 h2;exact .inl ⟨x,B,rfl⟩
  ·split at h2
   ·cases h2
   ·exact .inr (List.mem_singleton.1 h2)
 refine⟨fun s A=>?_,fun n hn s A hk=>?_⟩
 ·rcases key s A with⟨x,B,rfl⟩|rfl
  ·have:=h x B;refine .inr ⟨?_,this.2.2⟩;show zb0 (25+x.1)=true;simp[zb0];omega
  ·exact .inl rfl
 ·rcases key s A with⟨x,B,rfl⟩|rfl
  ·have:=h x B;show(25:Int)+x.1≠_;omega
  ·exact absurd rfl hk
theorem zwu:∀(cs:List (Int×ByteArray)) (d:Dk),zo7 cs→za3 d=true→d.wr.length+cs.length≤200→∀x∈cs,zci (runK d (homeM cs)) (25+x.1)=x.2:=by
 intro cs
 induction cs with
 |nil=>intro d _ _ _ x K;cases K
 |cons c cs ih=>
  intro d a S X x K;obtain⟨O,hb,J⟩:=a;have L:=hb c (by simp);have B:=List.nodup_cons.1 O;simp only[List.length_cons]at X J;have U:zdy (zbl (25+c.1) c.2):=.inr ⟨show zb0 (25+c.1)=true by simp[zb0];omega,L.2.2⟩;have Y:=zha U S (by omega);have e:homeM (c::cs)=zbl (25+c.1) c.2::homeM cs:=rfl;rw[e];show zci (runK (zbh d (zbl (25+c.1) c.2)) (homeM cs)) (25+x.1)=x.2;rcases List.mem_cons.1 K with rfl|hx2
  ·
   have M:zbh d (zbl (25+x.1) x.2)=zhn d (25+x.1) x.2:=rfl;have I:zid d (25+x.1) x.2=0:=zeg S (by simp[zb0];omega) L.2.2 (by omega)
   have key:∀(l:List (Int×ByteArray)) (D:Dk),(∀y∈l,0≤y.1∧y.1≤11∧zbb y.2=true)→(∀y∈l,y.1≠x.1)→za3 D=true→D.wr.length+l.length≤200→zci (runK D (homeM l)) (25+x.1)=zci D (25+x.1):=by
    intro l
    induction l with
    |nil=>intro D _ _ _ _;rfl
    |cons y l ih2=>
     intro D E F R Q;simp only[List.length_cons]at Q;have A:=E y (by simp);have C:zid D (25+y.1) y.2=0:=zeg R (by simp[zb0];omega) A.2.2 (by omega);have Z:homeM (y::l)=zbl (25+y.1) y.2::homeM l:=rfl;rw[Z];show zci (runK (zhn D (25+y.1) y.2) (homeM l)) (25+x.1)=_;have N:=zd7 C;rw[ih2 _ (fun z hz=>E z (by simp[hz])) (fun z hz=>F z (by simp[hz])) N (by rw[zew C];simp;omega),zew C,zlb,if_neg];have:=F y (by simp);omega
   rw[M,key cs _ (fun y A=>hb y (by simp[A])) (fun y A e=>B.1 (List.mem_map.2 ⟨y,A,e⟩)) (zd7 I) (by rw[zew I];simp;omega),zew I,zlb,if_pos rfl]
  ·exact ih _ ⟨B.2,fun y A=>hb y (by simp[A]),by omega⟩ Y.1 (by omega) x hx2
theorem zfx{d:Dk}(hg:za3 d=true){n:Nat}(hn:n<37):readE d n=0:=by
 rw[readE,hg,zhq hn];rfl
theorem ztd{X D:Dk}(h:∀n:Nat,1≤n→n≤24→zal X n=zal D n)(p:Int):logOf X p=logOf D p:=by
 unfold logOf;refine List.map_congr_left fun i hi=>?_;have A:=h (1+((p+(i:Int))%24).toNat) (by omega) (by omega);have e:((1+((p+(i:Int))%24).toNat:Nat):Int)=1+(p+(i:Int))%24:=by omega
 rw[e]at A;exact A
theorem zwv{X D:Dk}(hX:za3 X=true)(hD:za3 D=true)(h:∀n:Nat,n≤24→zal X n=zal D n):scanE X=scanE D∧fndL X=fndL D∧fndN X=fndN D∧fndP X=fndP D:=by
 have E:zal X 0=zal D 0:=h 0 (by omega);have B:zaq X=zaq D:=by rw[zaq,zaq,E]
 have A:scanE X=scanE D:=by
  have I:readE X 0=0:=zfx hX (n:=0) (by omega);have F:readE D 0=0:=zfx hD (n:=0) (by omega);rw[scanE,scanE,B,E,I,F]
 have C:zbw X=zbw D:=by rw[zbw,zbw,B,ztd (fun n _ h2=>h n h2)]
 refine⟨A,?_,?_,?_⟩
 ·rw[fndL,fndL,A,C]
 ·rw[fndN,fndN,A,B,C]
 ·rw[fndP,fndP,A,B,C]
theorem zte{p seq:Int}(h:goodM (zbq p seq)=0):(1≤seq∧seq≤2147483647)∧0≤p∧p≤23:=by
 unfold goodM at h;split at h
 ·cases h
 ·split at h
  ·cases h
  ·rename_i A;have:¬(seq<1∨2147483647<seq∨p<0∨23<p):=A;omega
theorem zzv(f:Int→Option ByteArray)(n:Nat):((asN f n).map (·.1)).Nodup:=by
 induction n with
 |zero=>simp[asN]
 |succ n ih=>
  rw[zee,List.map_append,List.nodup_append];refine⟨ih,?_,?_⟩
  ·unfold zpw;cases f n<;>simp
  ·intro a C b hb;obtain⟨x,B,rfl⟩:=List.mem_map.1 C;obtain⟨y,A,rfl⟩:=List.mem_map.1 hb;have h1:=(zoy B).2.1;unfold zpw at A
   cases hf:f (n:Int) with
   |none=>rw[hf]at A;simp at A
   |some s=>rw[hf]at A;simp at A;subst A;simp;omega
theorem zfg{l:List Tx}(hg:∀t∈l,zba t=true):zo7 (newestL l):=by
 refine⟨zzv _ _,fun x hx=>?_,zej _ 12⟩;obtain⟨a,b,c⟩:=zoy hx;exact⟨a,by omega,zkh hg _ _ c⟩
def putR (cs:List (Int×ByteArray))(S:ByteArray):List St:=homeS cs++[zbl 0 S,zb1]
section
variable {cs:List (Int×ByteArray)} {S:ByteArray} {d:Dk}
theorem zez(h:zo7 cs):(homeS cs).length≤13:=by
 rw[homeS,List.length_append,zcj];have:=h.2.2;split<;>simp<;>omega
theorem zl4(h:zo7 cs)(hS:zbb S=true):∀s∈putR cs S,zdy s:=by
 intro s A;rcases List.mem_append.1 A with h1|h1
 ·exact(zd5 h.2.1).1 s h1
 ·rcases List.mem_cons.1 h1 with rfl|h2
  ·exact .inr ⟨rfl,hS⟩
  ·rw[List.mem_singleton.1 h2];exact .inl rfl
theorem zhb(h:zo7 cs)(hg:za3 d=true)(hw:d.wr=[])(ho:∀n:Nat,n<25→Only d n (zal d n)):za3 (runK d (homeS cs))=true∧(runK d (homeS cs)).wr.length≤13∧(∀n:Nat,n<25→Only (runK d (homeS cs)) n (zal d n))∧∀x∈cs,Only (runK d (homeS cs)) (25+x.1).toNat x.2:=by
 have hl:=zez h;have A:=zd5 h.2.1;have B:=zcs (homeS cs) d A.1 hg (by rw[hw];simp;omega);refine⟨B.1,by have:=B.2;rw[hw]at this;simp at this;omega,fun n hn=>zht (by omega) _ d A.1 hg (by rw[hw];simp;omega) (ho n hn) (A.2 n hn),fun x hx=>?_⟩;have E:¬cs.length=0:=by intro e;rw[List.eq_nil_of_length_eq_zero e]at hx;cases hx
 have A1:=h.2.1 x hx;have D:∀s∈homeM cs,zdy s:=fun s hs=>A.1 s (by rw[homeS];exact List.mem_append.2 (.inl hs));have A0:(homeM cs).length≤12:=by rw[zcj];exact h.2.2
 have C:=zcs (homeM cs) d D hg (by rw[hw];simp;omega);rw[homeS,if_neg E,zcb];show Only (zcp (runK d (homeM cs))) _ _;have J:=zdo C.1 (n:=(25+x.1).toNat) (by omega);have e:(((25+x.1).toNat:Nat):Int)=25+x.1:=by omega
 have I:=zwu cs d h hg (by rw[hw];have:=h.2.2;simp;omega) x hx
 have F:zal (runK d (homeM cs)) ((25+x.1).toNat:Nat)=x.2:=by
  rw[zal,C.1,zhq (by omega),e];exact I
 rwa [F]at J
theorem zww(h:zo7 cs)(hS:zbb S=true)(hg:za3 d=true)(hw:d.wr=[])(ho:∀n:Nat,n<25→Only d n (zal d n)):za3 (runK d (putR cs S))=true∧Only (runK d (putR cs S)) 0 S∧(∀n:Nat,1≤n→n<25→Only (runK d (putR cs S)) n (zal d n))∧∀x∈cs,Only (runK d (putR cs S)) (25+x.1).toNat x.2:=by
 obtain⟨I,a2,K,M⟩:=zhb h hg hw ho;have C:zid (runK d (homeS cs)) 0 S=0:=zeg I rfl hS (by omega);have A:=zd7 C;have A0:(zhn (runK d (homeS cs)) 0 S).wr.length<200:=by rw[zew C];simp;omega
 have E:runK d (putR cs S)=zcp (zhn (runK d (homeS cs)) 0 S):=by rw[putR,zcb];rfl
 have J:zdy (zbl 0 S):=.inr ⟨rfl,hS⟩
 have keep:∀(n:Nat) (v:ByteArray),n<37→n≠0→Only (runK d (homeS cs)) n v→Only (runK d (putR cs S)) n v:=by
  intro n v D A1 N;rw[E];have F:Only (zhn (runK d (homeS cs)) 0 S) n v:=zje J I (by omega) D N (fun _=>by show(0:Int)≠_;omega);have B:=zdo A D
  rwa [F.read A D]at B
 refine⟨by rw[E];exact zu7 A,?_,fun n F B=>keep n _ (by omega) (by omega) (K n B),fun x hx=>?_⟩
 ·rw[E];have B:=zdo A (n:=0) (by omega);have L:=(zow C).1;have O:zal (zhn (runK d (homeS cs)) 0 S) ((0:Nat):Int)=S:=L
  rwa [O]at B
 ·have:=h.2.1 x hx;exact keep _ _ (by omega) (by omega) (M x hx)
theorem ztf(h:zo7 cs)(hS:zbb S=true)(hg:za3 d=true)(hw:d.wr=[])(ho:∀n:Nat,n<25→Only d n (zal d n))(k:Nat):za3 (runK d ((putR cs S).take k))=true∧(∀n:Nat,1≤n→n<25→Only (runK d ((putR cs S).take k)) n (zal d n))∧
  ((k<(putR cs S).length∧Only (runK d ((putR cs S).take k)) 0 (zal d 0))∨((∀s∈ways (runK d ((putR cs S).take k)) 0,(k<(putR cs S).length∧s=zal d 0)∨s=S)∧∀x∈cs,Only (runK d ((putR cs S).take k)) (25+x.1).toNat x.2)):=by
 have hl:=zez h;have A0:(putR cs S).length=(homeS cs).length+2:=by simp[putR]
 by_cases h1:k≤(homeS cs).length
 ·have e:(putR cs S).take k=(homeS cs).take k:=by rw[putR,List.take_append_of_le_length h1]
  have C:=zd5 h.2.1;have A:∀s∈(homeS cs).take k,zdy s:=fun s hs=>C.1 s (List.mem_of_mem_take hs);have D:d.wr.length+((homeS cs).take k).length≤200:=by rw[hw,List.length_take];simp;omega
  rw[e];have key:∀n:Nat,n<25→Only (runK d ((homeS cs).take k)) n (zal d n):=fun n B=>zht (by omega) _ d A hg D (ho n B) (fun s hs=>C.2 n B s (List.mem_of_mem_take hs));exact⟨(zcs _ d A hg D).1,fun n _ h2=>key n h2,.inl ⟨by omega,key 0 (by omega)⟩⟩
 ·obtain⟨I,a2,F,M⟩:=zhb h hg hw ho;by_cases h2:k=(homeS cs).length+1
  ·have e:(putR cs S).take k=homeS cs++[zbl 0 S]:=by
    rw[putR,List.take_append,List.take_of_length_le (by omega),h2,show(homeS cs).length+1 - (homeS cs).length=1 from by omega];rfl
   have J:zid (runK d (homeS cs)) 0 S=0:=zeg I rfl hS (by omega);have E:runK d ((putR cs S).take k)=zhn (runK d (homeS cs)) 0 S:=by rw[e,zcb];rfl
   have A:zdy (zbl 0 S):=.inr ⟨rfl,hS⟩
   have keep:∀(n:Nat) (v:ByteArray),n<37→n≠0→Only (runK d (homeS cs)) n v→Only (runK d ((putR cs S).take k)) n v:=by
    intro n v B A1 N;rw[E];exact zje A I (by omega) B N (fun _=>by show(0:Int)≠_;omega)
   refine⟨by rw[E];exact zd7 J,fun n h3 h4=>keep n _ (by omega) (by omega) (F n h4),.inr ⟨fun s hs=>?_,fun x hx=>?_⟩⟩
   ·rw[E,zo5 J,if_pos (show(0:Int)=((0:Nat):Int) from rfl)]at hs;rcases List.mem_append.1 hs with h5|h5
    ·exact .inl ⟨by omega,F 0 (by omega) s h5⟩
    ·exact .inr (List.mem_singleton.1 h5)
   ·have:=h.2.1 x hx;exact keep _ _ (by omega) (by omega) (M x hx)
  ·have e:(putR cs S).take k=putR cs S:=List.take_of_length_le (by omega);rw[e];obtain⟨O,L,Q,K⟩:=zww h hS hg hw ho;exact⟨O,Q,.inr ⟨fun s hs=>.inr (L s hs),K⟩⟩
end
def Among (d:Dk)(n:Nat)(S:ByteArray→Prop):Prop:=∀s∈ways d n,S s
theorem Among.mono{d:Dk}{n:Nat}{S T:ByteArray→Prop}(h:Among d n S)(hT:∀s,S s→T s):Among d n T:=fun s hs=>hT s (h s hs)
theorem znz{d:Dk}{s:St}(hs:zdy s)(hg:za3 d=true)(hl:d.wr.length<200){n:Nat}(hn:n<37){S:ByteArray→Prop}(hv:Among d n S)(hne:s.1≠2→s.2.1=(n:Int)→S s.2.2):Among (zbh d s) n S:=by
 unfold zbh;by_cases h2:s.1=2
 ·rw[if_pos h2];intro x A;rw[zdo hg hn x A,zal,hg,zhq hn];exact hv _ (zq2 n)
 ·rw[if_neg h2];obtain⟨C,B⟩:=hs.resolve_left h2;intro x A;rw[zo5 (zeg hg C B hl)]at A;split at A
  ·rename_i e;rcases List.mem_append.1 A with h|h
   ·exact hv x h
   ·rw[List.mem_singleton.1 h];exact hne h2 e
  ·exact hv x A
theorem zl5{n:Nat}(hn:n<37){S:ByteArray→Prop}:∀(l:List St) (d:Dk),(∀s∈l,zdy s)→za3 d=true→d.wr.length+l.length≤200→Among d n S→(∀s∈l,s.1≠2→s.2.1=(n:Int)→S s.2.2)→Among (runK d l) n S:=by
 intro l
 induction l with
 |nil=>intro d _ _ _ C _;exact C
 |cons s l ih=>
  intro d B D E C A;simp only[List.length_cons]at E;have F:=zha (B s (by simp)) D (by omega);exact ih (zbh d s) (fun x hx=>B x (by simp[hx])) F.1 (by omega) (znz (B s (by simp)) D (by omega) hn C (A s (by simp))) (fun x hx=>A x (by simp[hx]))
theorem zm3{log log':List ByteArray}(l:List (Int×Bool)):∀(i:Nat),(∀j,i≤j→j<i+l.length→log.getD j ByteArray.empty=log'.getD j ByteArray.empty)→copiesAt log i l=copiesAt log' i l:=by
 induction l with
 |nil=>intro i _;rfl
 |cons x r ih=>
  intro i h;rw[copiesAt,copiesAt,h i (Nat.le_refl _) (by simp),ih (i+1) (fun j h1 h2=>h j (by omega) (by simp only[List.length_cons];omega))]
theorem zwx{log log':List ByteArray}(hl:log.length=log'.length){m:Nat}(hm:∀i,i<m→log.getD i ByteArray.empty=log'.getD i ByteArray.empty)(seq:Int):∀(f i:Nat) (t:Tx) (n:Nat) (u:Tx),log.length - i≤f→zfb log seq i t=some (n,u)→n≤m→zfb log' seq i t=some (n,u):=by
 intro f
 induction f with
 |zero=>intro i t n u B h _;rw[zfb,dif_neg (by omega)]at h;cases h
 |succ f ih=>
  intro i t n u B h E;have hb:=zdl log seq _ i t n u (Nat.le_refl _) h;have e:=hm i (by omega);rw[zfb]at h⊢;split at h
  ·rename_i h1;rw[dif_pos (by omega),←e];split at h
   ·cases h
   ·rename_i C;rw[if_neg C];split at h
    ·rename_i A;rw[if_pos A];exact h
    ·rename_i A;rw[if_neg A];split at h
     ·rename_i h4;rw[if_pos (by omega)];have A0:=zdl log seq _ _ _ n u (Nat.le_refl _) h;have D:=zm3 (log:=log) (log':=log') (zas (log.getD i ByteArray.empty)).1.tags (i+1) (fun j _ h6=>hm j (by omega));have:=ih _ _ n u (by omega) h E;unfold more at this⊢;rw[D]at this;exact this
     ·cases h
  ·cases h
theorem zu8(log:List ByteArray):∀(f pos:Nat) (seq:Int) (acc:List Tx),log.length - pos≤f→pos≤(scanP log pos seq acc).2∧acc.length≤(scanP log pos seq acc).1.length:=by
 intro f
 induction f with
 |zero=>
  intro pos seq acc A;rw[scanP];split
  ·rw[zfb,dif_neg (by omega)];exact⟨Nat.le_refl _,Nat.le_refl _⟩
  ·exact⟨Nat.le_refl _,Nat.le_refl _⟩
 |succ f ih=>
  intro pos seq acc A;rw[scanP];split
  ·split
   ·exact⟨Nat.le_refl _,Nat.le_refl _⟩
   ·rename_i n t B;have hb:=zdl log seq _ pos _ n t (Nat.le_refl _) B;have:=ih n (seq+1) (acc++[t]) (by omega);rw[List.length_append,List.length_singleton]at this;omega
  ·exact⟨Nat.le_refl _,Nat.le_refl _⟩
theorem ztg{log log':List ByteArray}(hl:log.length=log'.length):∀(f pos:Nat) (seq:Int) (acc:List Tx),log.length - pos≤f→(∀i,i<(scanP log pos seq acc).2→log.getD i ByteArray.empty=log'.getD i ByteArray.empty)→
  scanP log' pos seq acc=scanP log' (scanP log pos seq acc).2 (seq+((scanP log pos seq acc).1.length:Int) - (acc.length:Int)) (scanP log pos seq acc).1:=by
 intro f
 induction f with
 |zero=>
  intro pos seq acc D _
  have e:scanP log pos seq acc=(acc,pos):=by
   rw[scanP];split
   ·rw[zfb,dif_neg (by omega)]
   ·rfl
  rw[e];show scanP log' pos seq acc=scanP log' pos (seq+(acc.length:Int) - (acc.length:Int)) acc;rw[show seq+(acc.length:Int) - (acc.length:Int)=seq by omega]
 |succ f ih=>
  intro pos seq acc D A;by_cases hq:seq<2147483647
  ·cases hr:zfb log seq pos (zcv seq) with
   |none=>
    have e:scanP log pos seq acc=(acc,pos):=by rw[scanP,dif_pos hq,hr]
    rw[e];show scanP log' pos seq acc=scanP log' pos (seq+(acc.length:Int) - (acc.length:Int)) acc;rw[show seq+(acc.length:Int) - (acc.length:Int)=seq by omega]
   |some x=>
    obtain⟨n,t⟩:=x;have e:scanP log pos seq acc=scanP log n (seq+1) (acc++[t]):=by rw[scanP,dif_pos hq,hr]
    rw[e]at A⊢;have hb:=zdl log seq _ pos _ n t (Nat.le_refl _) hr;have B:=zu8 log _ n (seq+1) (acc++[t]) (Nat.le_refl _);have C:=zwx hl A seq _ pos _ n t (Nat.le_refl _) hr B.1;have E:scanP log' pos seq acc=scanP log' n (seq+1) (acc++[t]):=by rw[scanP,dif_pos hq,C]
    rw[E,ih n (seq+1) (acc++[t]) (by omega) A]
    congr 1
    rw[List.length_append,List.length_singleton]
    push_cast
    omega
  ·have e:scanP log pos seq acc=(acc,pos):=by rw[scanP,dif_neg hq]
   rw[e];show scanP log' pos seq acc=scanP log' pos (seq+(acc.length:Int) - (acc.length:Int)) acc;rw[show seq+(acc.length:Int) - (acc.length:Int)=seq by omega]
theorem zzw{l r:List ByteArray}{j:Nat}(h:j<l.length):(l++r).getD j ByteArray.empty=l.getD j ByteArray.empty:=by
 rw[List.getD,List.getD,List.getElem?_append_left h]
theorem zzx{l r:List ByteArray}(j:Nat):(l++r).getD (l.length+j) ByteArray.empty=r.getD j ByteArray.empty:=by
 rw[List.getD,List.getD,List.getElem?_append_right (by omega),show l.length+j - l.length=j by omega]
def zo8 (l:List (Mk×List ByteArray)):List ByteArray:=l.flatMap fun x=>encT x.1::x.2
def z4k (N:Int)(x:Mk×List ByteArray):Prop:=goodM x.1=0∧x.1.seq=N∧x.1.kind≠1∧x.1.kind≠4∧x.2.length=x.1.tags.length
theorem zzy(x:Mk×List ByteArray)(l:List (Mk×List ByteArray)):zo8 (x::l)=encT x.1::(x.2++zo8 l):=by simp[zo8]
def zl6:List (Int×Bool)→List ByteArray→List (Int×ByteArray)
 |x::r,s::l=>(x.1,zfa s x.2)::zl6 r l
 |_,_=>[]
theorem zo9{log:List ByteArray}:∀(g:List (Int×Bool)) (l:List ByteArray) (i:Nat),l.length=g.length→(∀j,j<l.length→log.getD (i+j) ByteArray.empty=l.getD j ByteArray.empty)→copiesAt log i g=zl6 g l:=by
 intro g
 induction g with
 |nil=>intro l i _ _;cases l<;>rfl
 |cons x r ih=>
  intro l i A h
  cases l with
  |nil=>simp at A
  |cons s l=>
   rw[copiesAt,zl6];have B:=h 0 (by simp);simp only[Nat.add_zero,List.getD_cons_zero]at B
   rw[B,ih l (i+1) (by simpa using A) (fun j hj=>by
    have:=h (j+1) (by simp;omega);rw[List.getD_cons_succ]at this
    rw[show i+1+j=i+(j+1) by omega];exact this)]
def z5m (t:Tx)(l:List (Mk×List ByteArray)):Tx:={t with rev:=t.rev++l.flatMap (·.1.blocks),info:=t.info++l.flatMap (fun x=>zl6 x.1.tags x.2)}
theorem z2q{N:Int}{cm:Mk}(hcm:goodM cm=0)(hcq:cm.seq=N)(hck:cm.kind=4):∀(l:List (Mk×List ByteArray)) (log:List ByteArray) (i:Nat) (t:Tx),(∀x∈l,z4k N x)→i+(zo8 l).length+1≤log.length→
  (∀j,j<(zo8 l).length→log.getD (i+j) ByteArray.empty=(zo8 l).getD j ByteArray.empty)→log.getD (i+(zo8 l).length) ByteArray.empty=encT cm→zfb log N i t=some (i+(zo8 l).length+1,z5m t l):=by
 intro l
 induction l with
 |nil=>
  intro log i t _ B _ h;have e:log.getD i ByteArray.empty=encT cm:=h;rw[zfb,dif_pos (by simp[zo8]at B;omega),e,zj1 hcm,if_neg (by simp[hcq,hck]),if_pos hck];simp[zo8,z5m]
 |cons x l ih=>
  intro log i t D B A C;rw[zzy]at B A C⊢;simp only[List.length_cons,List.length_append]at B C;obtain⟨Q,M,E,F,L⟩:=D x (by simp);have e:log.getD i ByteArray.empty=encT x.1:=by simpa using A 0 (by simp)
  rw[zfb,dif_pos (by omega),e,zj1 Q];dsimp only;rw[if_neg (by simp;exact⟨M,E⟩),if_neg F,if_pos (by omega)]
  have K:copiesAt log (i+1) x.1.tags=zl6 x.1.tags x.2:=zo9 _ _ _ L (fun j I=>by
   have:=A (j+1) (by simp;omega);rw[List.getD_cons_succ,zzw I]at this
   rw[show i+1+j=i+(j+1) by omega];exact this)
  have O:∀j,j<(zo8 l).length→log.getD (i+1+x.1.tags.length+j) ByteArray.empty=(zo8 l).getD j ByteArray.empty:=by
   intro j I;have:=A (1+x.2.length+j) (by simp;omega);rw[show 1+x.2.length+j=(x.2.length+j)+1 by omega,List.getD_cons_succ,zzx]at this;rw[show i+1+x.1.tags.length+j=i+(x.2.length+j+1) by omega];exact this
  have J:log.getD (i+1+x.1.tags.length+(zo8 l).length) ByteArray.empty=encT cm:=by
   rw[show i+1+x.1.tags.length+(zo8 l).length=i+(x.2.length+(zo8 l).length+1) by omega];exact C
  rw[ih log _ _ (fun y hy=>D y (by simp[hy])) (by omega) O J];simp only[List.length_cons,List.length_append,Option.some.injEq,Prod.mk.injEq];refine⟨by omega,?_⟩;simp[z5m,more,K]
def segsOf (t:Tx):List (Mk×List ByteArray):=(if t.rev.length=0 then[] else[(⟨3,t.seq,0,[],t.rev⟩,[])])++(List.range (zc6 t.info.length 10)).map fun k=>(⟨2,t.seq,0,tagsOf (partOf t.info k),[]⟩,textsOf (partOf t.info k))
theorem zhu(t:Tx):zo8 (segsOf t)=logB t:=by
 unfold zo8 segsOf logB zwp zh4;rw[List.flatMap_append,List.flatMap_map]
 congr 1
 split<;>simp
theorem zwy{l:List (Int×ByteArray)}(h:zbk (blksOf l)=true)(k:Nat):zbk ((tagsOf (partOf l k)).map (·.1))=true:=by
 have e:(tagsOf (partOf l k)).map (·.1)=blksOf (partOf l k):=by simp[tagsOf,blksOf]
 rw[e];rw[za8]at h⊢
 have A:(blksOf (partOf l k)).Sublist (blksOf l):=by
  unfold blksOf partOf;exact((List.take_sublist _ _).trans (List.drop_sublist _ _)).map _
 exact⟨fun x hx=>h.1 x (A.subset hx),h.2.sublist A⟩
theorem zth{t:Tx}(hg:zba t=true):∀x∈segsOf t,z4k t.seq x:=by
 obtain⟨⟨q1,q2⟩,_,⟨I,_,F⟩,_⟩:=(za9 t).1 hg;have hs:=zaz hg;intro x D;unfold segsOf at D;rcases List.mem_append.1 D with h|h
 ·split at h
  ·cases h
  ·rename_i h0;rw[List.mem_singleton.1 h];refine⟨?_,rfl,by simp,by simp,rfl⟩;unfold goodM;rw[if_neg (by simp),if_neg (by simp;omega),if_neg (by simp),if_neg];rintro(⟨A,_⟩|⟨_,A⟩|A|A)
   ·simp at A
   ·simp only at A;omega
   ·simp[zbk,za1]at A
   ·simp only[F]at A;cases A
 ·obtain⟨k,E,rfl⟩:=List.mem_map.1 h;have C:=List.mem_range.1 E;have B:=zgg t.info k
  have A0:1≤(partOf t.info k).length∧(partOf t.info k).length≤10:=by
   rw[B];unfold zc6 at C;unfold zfk;split<;>omega
  refine⟨?_,rfl,by simp,by simp,by simp[tagsOf,textsOf]⟩;unfold goodM;rw[if_neg (by simp),if_neg (by simp;omega),if_neg (by simp),if_neg];rintro(⟨_,A⟩|⟨A,_⟩|A|A)
  ·simp only[tagsOf,List.length_map]at A;omega
  ·simp at A
  ·simp only[zwy I k]at A;cases A
  ·simp[zbk,za1]at A
theorem zzz(l:List (Int×ByteArray)):zl6 (tagsOf l) (textsOf l)=l:=by
 induction l with
 |nil=>rfl
 |cons x r ih=>
  show(x.1,zfa (escT x.2) (isMagic x.2))::zl6 (tagsOf r) (textsOf r)=x::r;rw[ih,zzu]
theorem zti{l:List (Int×ByteArray)}(h:l.length≤12):(List.range (zc6 l.length 10)).flatMap (partOf l)=l:=by
 by_cases h0:l.length=0
 ·rw[List.eq_nil_of_length_eq_zero h0];rfl
 ·by_cases h1:l.length≤10
  ·have e:zc6 l.length 10=1:=by unfold zc6;omega
   rw[e];simp[partOf,List.range_succ];exact List.take_of_length_le h1
  ·have e:zc6 l.length 10=2:=by unfold zc6;omega
   rw[e];have A:(l.drop 10).take 10=l.drop 10:=List.take_of_length_le (by rw[List.length_drop];omega);simp[partOf,List.range_succ,A]
def zdv (t:Tx):Tx:=⟨t.seq,t.info,[],t.rev,⟨false,0⟩,⟨false,0⟩,⟨false,0⟩⟩
theorem zz0{t:Tx}(hg:zba t=true):z5m (zcv t.seq) (segsOf t)=zdv t:=by
 have C:=zaz hg
 have B:(segsOf t).flatMap (·.1.blocks)=t.rev:=by
  unfold segsOf;rw[List.flatMap_append,List.flatMap_map];split
  ·rename_i h;simp[List.eq_nil_of_length_eq_zero h]
  ·simp
 have A:(segsOf t).flatMap (fun x=>zl6 x.1.tags x.2)=t.info:=by
  unfold segsOf;rw[List.flatMap_append,List.flatMap_map]
  have:((List.range (zc6 t.info.length 10)).flatMap fun k=>zl6 (tagsOf (partOf t.info k)) (textsOf (partOf t.info k)))=t.info:=by
   rw[show(fun k=>zl6 (tagsOf (partOf t.info k)) (textsOf (partOf t.info k)))=partOf t.info from funext fun k=>zzz _];exact zti C.1
  split
  ·simpa using this
  ·simpa[zl6] using this
 unfold z5m zdv zcv;rw[B,A];simp
theorem zl7{t:Tx}(hg:zba t=true):goodM ⟨4,t.seq,0,[],[]⟩=0:=by
 obtain⟨⟨q1,q2⟩,_⟩:=(za9 t).1 hg;unfold goodM;rw[if_neg (by simp),if_neg (by simp;omega),if_neg (by simp),if_neg];simp[zbk,za1]
theorem zjf{ps:List Int}{l:List ByteArray}{s:St}(h:s∈putS ps l):∃i,i<l.length∧i<ps.length∧s=zbl (1+ps.getD i 0) (l.getD i ByteArray.empty):=by
 obtain⟨i,A⟩:=List.getElem?_of_mem h;have B:=(List.getElem?_eq_some_iff.1 A).1;unfold putS at A B;rw[List.length_zipWith]at B;have C:i<l.length:=by omega
 have D:i<ps.length:=by omega
 refine⟨i,C,D,?_⟩;rw[List.getElem?_zipWith,List.getElem?_eq_getElem C,List.getElem?_eq_getElem D]at A;simp only[Option.some.injEq]at A;rw[←A,List.getD,List.getD,List.getElem?_eq_getElem C,List.getElem?_eq_getElem D];rfl
theorem zz1:∀(l:List ByteArray) (ps:List Int) (d:Dk),l.length≤ps.length→ps.Nodup→(∀p∈ps,0≤p∧p≤23)→(∀s∈l,zbb s=true)→za3 d=true→d.wr.length+l.length≤200→∀i,i<l.length→zal (runK d (putS ps l)) (1+ps.getD i 0)=l.getD i ByteArray.empty:=by
 intro l
 induction l with
 |nil=>intro ps d _ _ _ _ _ _ i C;simp at C
 |cons s l ih=>
  intro ps d E I L D M N i C
  cases ps with
  |nil=>simp at E
  |cons p ps=>
   have A0:=L p (by simp);simp only[List.length_cons]at E N C;have B:zid d (1+p) s=0:=zeg M (by simp[zb0];omega) (D s (by simp)) (by omega);have e:runK d (putS (p::ps) (s::l))=runK (zhn d (1+p) s) (putS ps l):=rfl;have A:=List.nodup_cons.1 I;rw[e]
   cases i with
   |succ i=>
    rw[List.getD_cons_succ,List.getD_cons_succ];exact ih ps _ (by omega) A.2 (fun x hx=>L x (by simp[hx])) (fun x hx=>D x (by simp[hx])) (zd7 B) (by rw[zew B];simp;omega) i (by omega)
   |zero=>
    rw[List.getD_cons_zero,List.getD_cons_zero]
    have F:=(zzi (1+p).toNat (by omega) (putS ps l) _ (zd7 B) (fun x hx _=>by
     obtain⟨j,_,K,rfl⟩:=zjf hx;show 1+ps.getD j 0≠_;intro hc;have J:ps.getD j 0=p:=by omega
     refine A.1 ?_;rw[←J,List.getD,List.getElem?_eq_getElem K]
     exact List.getElem_mem K)).1
    rw[show(((1+p).toNat:Nat):Int)=1+p by omega]at F;rw[F];exact(zow B).1
theorem zq3(h:Int){n:Nat}(hn:n≤24):(zbu h n).Nodup:=by
 unfold zbu List.Nodup;rw[List.pairwise_map];refine List.Pairwise.imp_of_mem ?_ (List.pairwise_lt_range (n:=n));intro a b A hb A0;have:=List.mem_range.1 A;have:=List.mem_range.1 hb;omega
theorem zu9{t:Tx}(hg:zba t=true):∀s∈logB t,zbb s=true:=by
 intro s B;rw[←zhu,zo8]at B;obtain⟨x,A,h⟩:=List.mem_flatMap.1 B;rcases List.mem_cons.1 h with rfl|h
 ·have:=zff (zth hg x A).1;simp[zbb];omega
 ·unfold segsOf at A;rcases List.mem_append.1 A with h2|h2
  ·split at h2
   ·cases h2
   ·rw[List.mem_singleton.1 h2]at h;cases h
  ·obtain⟨k,_,rfl⟩:=List.mem_map.1 h2;obtain⟨c,E,rfl⟩:=List.mem_map.1 h;have C:c∈t.info:=List.mem_of_mem_drop (List.mem_of_mem_take E);have D:=((za9 t).1 hg).2.1.1;have:=List.all_eq_true.1 D c C;simp only[zbb]at this⊢;rw[zo4];exact this
theorem zhv{t:Tx}(hg:zba t=true):∀x∈t.data,0≤x.1∧x.1≤11∧zbb x.2=true:=by
 obtain⟨_,⟨_,D⟩,⟨_,C,_⟩,_⟩:=(za9 t).1 hg;intro x B;have A:=((za8 _).1 C).1 x.1 (List.mem_map.2 ⟨x,B,rfl⟩);exact⟨A.1,A.2,List.all_eq_true.1 D x B⟩
def sealA (P:Int)(t:Tx):List St:=homeS t.data++putS (zbu P ((logB t).length+1)) (logB t)
def sealF (t:Tx):List St:=if 0<t.rev.length+t.info.length then[zb1] else[]
def zhc (P:Int)(t:Tx):St:=zbl (1+(P+((logB t).length:Int))%24) (zk1 t)
theorem zbx{P U:Int}{t:Tx}(h:sealE P U t=0):commitS P U t=sealA P t++sealF t++[zhc P t,zb1]∧zba t=true∧(0≤P∧P≤23)∧0≤U∧U+((logB t).length:Int)+1≤24:=by
 obtain⟨C,_,hl,_⟩:=zl1 h;have A:=h;unfold sealE at A;split at A
 ·cases A
 ·rename_i I;have D:zii P U=true:=by cases e:zii P U;exact absurd (.inl e) I;rfl
  obtain⟨F,p2,u1,u2⟩:=zqn D;have E:=zaz C;have hn:=zex t E.1 E.2.2
  have B:sealP P U t=zbu P ((logB t).length+1):=by
   rw[sealP,if_pos h,takeL,if_pos A]
   congr 1;omega
  refine⟨?_,C,⟨F,p2⟩,u1,?_⟩
  ·rw[commitS,if_pos h,B,zdi _ _ _ (by omega)];simp[sealA,sealF,zhc]
  ·unfold takeE at A;split at A
   ·cases A
   ·split at A
    ·cases A
    ·omega
theorem z2r{t:Tx}(h:¬0<t.rev.length+t.info.length):logB t=[]:=by
 have B:t.rev=[]:=List.eq_nil_of_length_eq_zero (by omega);have A:t.info=[]:=List.eq_nil_of_length_eq_zero (by omega);rw[logB,zwp,B,A];rfl
section
variable {D:Dk} {P U:Int} {t:Tx}
theorem zhw(h:sealE P U t=0):(∀s∈commitS P U t,zdy s)∧(commitS P U t).length≤50:=by
 obtain⟨e,A,hP,_,hU⟩:=zbx h;have hd:=zd5 (zhv A);have D:=zaz A;refine⟨?_,?_⟩
 ·rw[e];intro s D;rcases List.mem_append.1 D with h1|h1
  ·rcases List.mem_append.1 h1 with h1|h1
   ·rcases List.mem_append.1 h1 with h1|h1
    ·exact hd.1 s h1
    ·obtain⟨i,C,B,rfl⟩:=zjf h1;rw[zbo]at B;refine .inr ⟨?_,?_⟩
     ·show zb0 (1+(zbu P _).getD i 0)=true;rw[zdi _ _ _ B];simp[zb0];omega
     ·show zbb ((logB t).getD i ByteArray.empty)=true;rw[List.getD,List.getElem?_eq_getElem C];exact zu9 A _ (List.getElem_mem C)
   ·unfold sealF at h1;split at h1
    ·rw[List.mem_singleton.1 h1];exact .inl rfl
    ·cases h1
  ·rcases List.mem_cons.1 h1 with rfl|h1
   ·refine .inr ⟨?_,?_⟩
    ·show zb0 (1+(P+_)%24)=true;simp[zb0];omega
    ·show zbb (zk1 t)=true;have:=zff (zl7 A);simp[zbb,zk1];omega
   ·rw[List.mem_singleton.1 h1];exact .inl rfl
 ·rw[e];have h1:(homeS t.data).length≤13:=by rw[homeS,List.length_append,zcj];split<;>simp<;>omega
  have E:(putS (zbu P ((logB t).length+1)) (logB t)).length=(logB t).length:=zd4 (by rw[zbo];omega);have h3:(sealF t).length≤1:=by unfold sealF;split<;>simp
  simp only[sealA,List.length_append,List.length_cons,List.length_nil,E];omega
theorem zli(h:sealE P U t=0){n:Nat}(hn:n<25):∀s∈sealA P t++sealF t,s.1≠2→s.2.1=(n:Int)→∃i,i<(logB t).length∧(n:Int)=1+(P+(i:Int))%24∧s.2.2=(logB t).getD i ByteArray.empty:=by
 obtain⟨_,D,_,_,_⟩:=zbx h
 intro s F C A
 rcases List.mem_append.1 F with h1|h1
 ·rcases List.mem_append.1 h1 with h1|h1
  ·exact absurd A ((zd5 (zhv D)).2 n hn s h1 C)
  ·obtain⟨i,E,B,rfl⟩:=zjf h1;rw[zbo]at B;refine⟨i,E,?_,rfl⟩;rw[←A];show 1+(zbu P _).getD i 0=_;rw[zdi _ _ _ B]
 ·unfold sealF at h1;split at h1
  ·rw[List.mem_singleton.1 h1]at C;exact absurd rfl C
  ·cases h1
theorem zz2(hg:za3 D=true)(hw:D.wr=[])(h:sealE P U t=0){k:Nat}(hk:k≤(commitS P U t).length):
  za3 (runK D ((commitS P U t).take k))=true∧
  (∀n:Nat,n<25→(∀i:Nat,i≤(logB t).length→(n:Int)≠1+(P+(i:Int))%24)→Only (runK D ((commitS P U t).take k)) n (zal D n))∧
  ((k+1<(commitS P U t).length∧(∀(n i:Nat),i<(logB t).length→(n:Int)=1+(P+(i:Int))%24→Among (runK D ((commitS P U t).take k)) n (fun s=>s=zal D n∨s=(logB t).getD i ByteArray.empty))∧(∀n:Nat,(n:Int)=1+(P+((logB t).length:Int))%24→Only (runK D ((commitS P U t).take k)) n (zal D n)))∨
   ((commitS P U t).length≤k+1∧(∀(n i:Nat),i<(logB t).length→(n:Int)=1+(P+(i:Int))%24→Only (runK D ((commitS P U t).take k)) n ((logB t).getD i ByteArray.empty))∧(∀n:Nat,(n:Int)=1+(P+((logB t).length:Int))%24→Among (runK D ((commitS P U t).take k)) n (fun s=>(k<(commitS P U t).length∧s=zal D n)∨s=zk1 t)))):=by
 obtain⟨e,d,hP,A5,hU⟩:=zbx h;obtain⟨m,A2⟩:=zhw h
 have Q:∀n:Nat,n<37→Only D n (zal D n):=by
  intro n F;obtain⟨sf,wr⟩:=D;simp only at hw;subst hw;exact zl3 hg F
 have J:∀s∈(commitS P U t).take k,zdy s:=fun s A=>m s (List.mem_of_mem_take A);have R:D.wr.length+((commitS P U t).take k).length≤200:=by rw[hw,List.length_take];simp;omega
 have u:∀{n:Nat},n<25→∀s∈commitS P U t,s.1≠2→s.2.1=(n:Int)→(∃i,i<(logB t).length∧(n:Int)=1+(P+(i:Int))%24∧s.2.2=(logB t).getD i ByteArray.empty)∨((n:Int)=1+(P+((logB t).length:Int))%24∧s=zhc P t):=by
  intro n F s A C E
  rw[e]at A;rcases List.mem_append.1 A with h1|h1
  ·exact .inl (zli h F s h1 C E)
  ·rcases List.mem_cons.1 h1 with rfl|h1
   ·exact .inr ⟨E.symm,rfl⟩
   ·rw[List.mem_singleton.1 h1]at C;exact absurd rfl C
 have A1:=(zcs _ D J hg R).1;refine⟨A1,?_,?_⟩
 ·intro n F q;refine zht (by omega) _ D J hg R (Q n (by omega)) fun s A C E=>?_;rcases u F s (List.mem_of_mem_take A) C E with⟨i,L,h1,_⟩|⟨h1,_⟩
  ·exact q i (by omega) h1
  ·exact q _ (Nat.le_refl _) h1
 ·have l:(commitS P U t).length=(sealA P t++sealF t).length+2:=by rw[e,List.length_append];rfl
  by_cases hk1:k+1<(commitS P U t).length
  ·have c:(commitS P U t).take k=(sealA P t++sealF t).take k:=by rw[e,List.take_append_of_le_length (by omega)]
   refine .inl ⟨hk1,?_,?_⟩
   ·intro n i L B;have F:n<25:=by omega
    refine zl5 (by omega) _ D J hg R (fun s A=>.inl (Q n (by omega) s A)) fun s A C E=>?_;rw[c]at A
    obtain⟨j,hj,h1,K⟩:=zli h F s (List.mem_of_mem_take A) C E
    have:j=i:=by omega
    subst this;exact .inr K
   ·intro n B;have F:n<25:=by omega
    refine zht (by omega) _ D J hg R (Q n (by omega)) fun s A C E=>?_;rw[c]at A
    obtain⟨j,hj,h1,K⟩:=zli h F s (List.mem_of_mem_take A) C E
    omega
  ·have N:∀s∈sealA P t++sealF t,zdy s:=fun s A=>m s (by rw[e];exact List.mem_append.2 (.inl A));have O:D.wr.length+(sealA P t++sealF t).length≤200:=by rw[hw];simp at l⊢;omega
   have I:=zcs _ D N hg O
   have X:∀(n i:Nat),i<(logB t).length→(n:Int)=1+(P+(i:Int))%24→Only (runK D (sealA P t++sealF t)) n ((logB t).getD i ByteArray.empty):=by
    intro n i L B
    have w:0<t.rev.length+t.info.length:=by
     by_cases hx:0<t.rev.length+t.info.length
     ·exact hx
     ·rw[z2r hx]at L;simp at L
    have x:∀s∈sealA P t,zdy s:=fun s A=>N s (List.mem_append.2 (.inl A));have z:D.wr.length+(sealA P t).length≤200:=by simp at O⊢;omega
    have A0:=zcs _ D x hg z;have eF:runK D (sealA P t++sealF t)=zcp (runK D (sealA P t)):=by rw[zcb,sealF,if_pos w];rfl
    rw[eF];have h1:=zdo A0.1 (n:=n) (by omega)
    have K:zal (runK D (sealA P t)) n=(logB t).getD i ByteArray.empty:=by
     rw[sealA,zcb];have hd:=zd5 (zhv d)
     have A3:(homeS t.data).length≤13:=by
      have:=zaz d;rw[homeS,List.length_append,zcj];split<;>simp<;>omega
     have r:=zcs (homeS t.data) D hd.1 hg (by rw[hw];simp;omega)
     have:=zz1 (logB t) (zbu P ((logB t).length+1)) (runK D (homeS t.data)) (by rw[zbo];omega) (zq3 P (by omega)) (fun p hp=>by
      unfold zbu at hp;obtain⟨j,_,rfl⟩:=List.mem_map.1 hp
      omega) (zu9 d) r.1 (by have:=r.2;rw[hw]at this;simp at this;omega) i L
     rw[zdi _ _ _ (by omega),←B]at this;exact this
    rwa [K]at h1
   have M:zdy (zhc P t):=m _ (by rw[e];simp);have S:(runK D (sealA P t++sealF t)).wr.length<200:=by have:=I.2;rw[hw]at this;simp at this l;omega
   have Y:=zha M I.1 S;have A4:(zbh (runK D (sealA P t++sealF t)) (zhc P t)).wr.length<200:=by have:=Y.2;have:=I.2;rw[hw]at this;simp at this l;omega
   have Z:∀(n:Nat) (v:ByteArray),n<25→(n:Int)≠1+(P+((logB t).length:Int))%24→Only (runK D (sealA P t++sealF t)) n v→Only (zbh (runK D (sealA P t++sealF t)) (zhc P t)) n v:=fun n v F hne hv=>zje M I.1 S (by omega) hv (fun _ hx=>hne hx.symm)
   have y:∀n:Nat,(n:Int)=1+(P+((logB t).length:Int))%24→Among (zbh (runK D (sealA P t++sealF t)) (zhc P t)) n (fun s=>s=zal D n∨s=zk1 t):=by
    intro n B;refine znz M I.1 S (by omega) ?_ (fun _ _=>.inr rfl)
    have:=zht (n:=n) (by omega) _ D N hg O (Q n (by omega)) fun s A C E=>by
     obtain⟨j,hj,h1,K⟩:=zli h (by omega) s A C E
     omega
    exact fun s A=>.inl (this s A)
   refine .inr ⟨by omega,?_⟩;by_cases hk3:k=(commitS P U t).length
   ·have c:runK D ((commitS P U t).take k)=zcp (zbh (runK D (sealA P t++sealF t)) (zhc P t)):=by
     rw[hk3,List.take_length,e,zcb];rfl
    rw[c];refine⟨fun n i L B=>?_,fun n B s A=>?_⟩
    ·have h1:=Z n _ (by omega) (by omega) (X n i L B);have K:=zdo Y.1 (n:=n) (by omega)
     rwa [h1.read Y.1 (by omega)]at K
    ·have K:=zdo Y.1 (n:=n) (by omega) s A;refine .inr ?_;rw[K]
     have he:zid (runK D (sealA P t++sealF t)) (1+(P+((logB t).length:Int))%24) (zk1 t)=0:=by
      obtain⟨a,b⟩:=M.resolve_left (by simp[zhc,zbl]);exact zeg I.1 a b S
     have:=(zow he).1;rw[B];exact this
   ·have c:runK D ((commitS P U t).take k)=zbh (runK D (sealA P t++sealF t)) (zhc P t):=by
     have:(commitS P U t).take k=(sealA P t++sealF t)++[zhc P t]:=by
      rw[e,List.take_append,List.take_of_length_le (by omega),show k - (sealA P t++sealF t).length=1 by omega];rfl
     rw[this,zcb];rfl
    rw[c];refine⟨fun n i L B=>Z n _ (by omega) (by omega) (X n i L B),fun n B s A=>?_⟩;rcases y n B s A with h1|h1
    ·exact .inl ⟨by omega,h1⟩
    ·exact .inr h1
end
def z2s (d:Dk):Int:=if(fndP d - (zaq d).pos)%24=0∧0<(fndL d).length then 24 else(fndP d - (zaq d).pos)%24
theorem ztj(log:List ByteArray)(pos:Nat)(seq:Int)(acc:List Tx):(scanP log pos seq acc=(acc,pos))∨(acc.length<(scanP log pos seq acc).1.length∧pos<(scanP log pos seq acc).2):=by
 rw[scanP];split
 ·split
  ·exact .inl rfl
  ·rename_i n t A;have hb:=zdl log seq _ pos _ n t (Nat.le_refl _) A;have:=zu8 log _ n (seq+1) (acc++[t]) (Nat.le_refl _);rw[List.length_append,List.length_singleton]at this;exact .inr ⟨by omega,by omega⟩
 ·exact .inl rfl
theorem zjg{d:Dk}(h:scanE d=0):z2s d=((zbw d).2:Int)∧(zbw d).2≤24∧fndP d=((zaq d).pos+((zbw d).2:Int))%24∧fndN d=(zaq d).seq+((zbw d).1.length:Int):=by
 obtain⟨_,⟨q1,C⟩,p1,p2,_,_⟩:=zhr h
 have B:(zbw d).2≤24:=by
  have:=(znx (logOf d (zaq d).pos) 24 0 (zaq d).seq [] (by rw[za7];omega) (fun t ht=>by cases ht) C).2.2 (Nat.zero_le _);rw[za7]at this;exact this
 have A:fndP d=((zaq d).pos+((zbw d).2:Int))%24:=by rw[fndP,if_pos h];omega
 have D:=ztj (logOf d (zaq d).pos) 0 (zaq d).seq [];refine⟨?_,B,A,by rw[fndN,if_pos h]⟩;have E:(fndL d).length=(zbw d).1.length:=by rw[fndL,if_pos h]
 rw[z2s,E];rcases D with e|⟨e1,e2⟩
 ·have F:zbw d=([],0):=e;rw[A,F];rw[if_neg (by simp)];show(((zaq d).pos+((0:Nat):Int))%24 - (zaq d).pos)%24=((0:Nat):Int);omega
 ·have A0:0<(zbw d).1.length:=e1;have A1:0<(zbw d).2:=e2;split<;>omega
def NoEnd (M:Int)(s:ByteArray):Prop:=(zas s).2=0→(zas s).1.kind=4→(zas s).1.seq<M
theorem NoEnd.mono{M M':Int}{s:ByteArray}(h:NoEnd M s)(hm:M≤M'):NoEnd M' s:=fun a b=>by have:=h a b;omega
theorem zj2{log:List ByteArray}{N M:Int}(h:∀i,i<log.length→NoEnd N (log.getD i ByteArray.empty))(hM:N≤M):∀(f i:Nat) (t:Tx),log.length - i≤f→zfb log M i t=none:=by
 intro f
 induction f with
 |zero=>intro i t C;rw[zfb,dif_neg (by omega)]
 |succ f ih=>
  intro i t C;rw[zfb];split
  ·rename_i B;split
   ·rfl
   ·rename_i A;simp only[not_or,ne_eq,Decidable.not_not]at A;split
    ·rename_i D;have:=h i B A.1 D;omega
    ·split
     ·exact ih _ _ (by omega)
     ·rfl
  ·rfl
theorem zl8{t:Tx}(hg:zba t=true)(M:Int):∀s∈logB t,NoEnd M s:=by
 intro s A;rw[←zhu]at A;obtain⟨x,hx,A⟩:=List.mem_flatMap.1 A;obtain⟨E,_,_,F,_⟩:=zth hg x hx;rcases List.mem_cons.1 A with rfl|A
 ·intro _ D;rw[zj1 E]at D;exact absurd D F
 ·have B:∃c,s=escT c:=by
   rcases List.mem_append.1 hx with hx|hx
   ·split at hx
    ·cases hx
    ·rw[List.mem_singleton.1 hx]at A;cases A
   ·obtain⟨k,_,rfl⟩:=List.mem_map.1 hx;obtain⟨c,_,rfl⟩:=List.mem_map.1 A;exact⟨_,rfl⟩
  obtain⟨c,rfl⟩:=B;intro C;rw[zq0 (zzt c)]at C;cases C
theorem zwz{t:Tx}(hg:zba t=true):NoEnd (t.seq+1) (zk1 t):=by
 intro _ _;rw[zk1,zj1 (zl7 hg)];show t.seq<t.seq+1;omega
structure Crashed (R X:Dk):Prop where
 good:za3 X=true
 clean:X.wr=[]
 at_:∀n:Nat,n<37→zal X n∈ways R n
theorem zw0{R:Dk}(hg:za3 R=true){q:Int}(hq:0≤q):crashE R q=0∧Crashed R (crashK R q):=by
 have hd:decide (0≤q)=true:=by simpa using hq
 have A:crashK R q=⟨(zdn R q.toNat 37).1,[]⟩:=by rw[crashK,hg,hd];rfl
 refine⟨by rw[crashE,hg,hd];rfl,by rw[A];exact zny hg _,by rw[A],fun n hn=>?_⟩;rw[A,zg2 (zny hg _) hn];exact zu5 _ _ _ hn
theorem zkm{R:Dk}(hg:za3 R=true)(hw:R.wr=[]):Crashed R R:=by
 refine⟨hg,hw,fun n hn=>?_⟩;obtain⟨sf,wr⟩:=R;simp only at hw;subst hw;rw[zg2 hg hn,zq1];simp
theorem zfy{D:Dk}(hg:za3 D=true)(hw:D.wr=[]){n:Nat}(hn:n<37):Only D n (zal D n):=by
 obtain⟨sf,wr⟩:=D;simp only at hw;subst hw;exact zl3 hg hn
structure Tells (D:Dk)(l:List Tx)(N P U:Int):Prop where
 clean:D.wr=[]
 tE:scanE D=0
 tL:fndL D=l
 tN:fndN D=N
 tP:fndP D=P
 tU:z2s D=U
 goods:∀t∈l,zba t=true
 late:∀n:Nat,1≤n→n≤24→NoEnd N (zal D n)
theorem Tells.good{D:Dk}{l:List Tx}{N P U:Int}(h:Tells D l N P U):za3 D=true:=(zhr h.tE).1
theorem Tells.range{D:Dk}{l:List Tx}{N P U:Int}(h:Tells D l N P U):(1≤N∧N≤2147483647)∧(0≤P∧P≤23)∧0≤U∧U≤24:=by
 obtain⟨_,A,B,C⟩:=zqk h.tE;obtain⟨u1,u2,_,_⟩:=zjg h.tE;rw[h.tN]at A;rw[h.tP]at B C;rw[h.tU]at u1;exact⟨A,⟨B,C⟩,by omega,by omega⟩
theorem Tells.congr{D X:Dk}{l:List Tx}{N P U:Int}(h:Tells D l N P U)(hg:za3 X=true)(hw:X.wr=[])(hr:∀n:Nat,n≤24→zal X n=zal D n):Tells X l N P U:=by
 obtain⟨J,B,F,C⟩:=zwv hg h.good hr
 have I:zaq X=zaq D:=by
  have E:=hr 0 (by omega);have A:zal X 0=zal D 0:=E;rw[zaq,zaq,A]
 refine⟨hw,J.trans h.tE,B.trans h.tL,F.trans h.tN,C.trans h.tP,?_,h.goods,fun n h1 h2=>by rw[hr n h2];exact h.late n h1 h2⟩;rw[z2s,C,I,B];exact h.tU
theorem Tells.still{D X:Dk}{l:List Tx}{N P U:Int}(h:Tells D l N P U)(hX:Crashed D X):Tells X l N P U∧∀n:Nat,n<37→zal X n=zal D n:=by
 have A:∀n:Nat,n<37→zal X n=zal D n:=fun n hn=>zfy h.good h.clean hn _ (hX.at_ n hn);exact⟨h.congr hX.good hX.clean (fun n hn=>A n (by omega)),A⟩
theorem zva{D:Dk}{l:List Tx}{N P U:Int}(h:Tells D l N P U){t:Tx}(hN:N<2147483646)(hq:t.seq=N)(hS:sealE P U t=0)(hgt:zba (zdv t)=true){k:Nat}(hk:k≤(commitS P U t).length){X:Dk}(hX:Crashed (runK D ((commitS P U t).take k)) X):
  (Tells X l N P U∧k<(commitS P U t).length)∨(Tells X (l++[zdv t]) (N+1) (zcl P U t) (zce P U t)∧(commitS P U t).length≤k+1):=by
 have w:=h.tE;have A4:=h.good;obtain⟨_,⟨C1,C2⟩,p1,p2,_,B8⟩:=zhr w;obtain⟨hU,B6,a,r⟩:=zjg w;rw[h.tU]at hU;rw[h.tP]at a;rw[h.tN]at r;obtain⟨_,L,hP,C0,B4⟩:=zbx hS;obtain⟨r1,r2,r3⟩:=zz2 A4 h.clean hS hk;generalize runK D ((commitS P U t).take k)=R at *;rw[hU]at B4;have gX:=hX.good;have J:=hX.at_
 have B5:∀i j:Nat,i<24→j≤(logB t).length→1+((zaq D).pos+(i:Int))%24=1+(P+(j:Int))%24→i=(zbw D).2+j:=by
  intro i j B F Z;rw[a]at Z;omega
 have A9:∀j:Nat,j≤(logB t).length→1+((zaq D).pos+(((zbw D).2+j:Nat):Int))%24=1+(P+(j:Int))%24:=by
  intro j F;rw[a];omega
 have h0:zal X 0=zal D 0:=r2 0 (by omega) (fun i _=>by show(0:Int)≠_;omega) _ (J 0 (by omega));have K:zaq X=zaq D:=by rw[zaq,zaq,h0]
 have C:scanE X=0:=by
  have e1:readE X 0=0:=zfx gX (n:=0) (by omega);have e2:readE D 0=0:=zfx A4 (n:=0) (by omega);rw[←w,scanE,scanE,K,h0,e1,e2]
 have lD:∀i:Nat,i<24→(logOf D (zaq D).pos).getD i ByteArray.empty=zal D ((1+(((zaq D).pos+(i:Int))%24).toNat:Nat):Int):=by
  intro i B;rw[zi2 _ _ _ B]
  congr 1;omega
 have lX:∀i:Nat,i<24→(logOf X (zaq D).pos).getD i ByteArray.empty=zal X ((1+(((zaq D).pos+(i:Int))%24).toNat:Nat):Int):=by
  intro i B;rw[zi2 _ _ _ B]
  congr 1;omega
 have same:∀i:Nat,i<24→(∀j:Nat,j≤(logB t).length→i≠(zbw D).2+j)→(logOf D (zaq D).pos).getD i ByteArray.empty=(logOf X (zaq D).pos).getD i ByteArray.empty:=by
  intro i B B3;rw[lD i B,lX i B];refine(r2 _ (by omega) (fun j F Z=>B3 j F (B5 i j B F (by omega))) _ (J _ (by omega))).symm
 have z:=ztg (log:=logOf D (zaq D).pos) (log':=logOf X (zaq D).pos) (by rw[za7,za7]) 24 0 (zaq D).seq [] (by rw[za7];omega) (fun i B=>same i (by have:i<(zbw D).2:=B;omega) (fun j _ Z=>by have:i<(zbw D).2:=B;omega))
 have c:zbw X=scanP (logOf X (zaq D).pos) (zbw D).2 N (zbw D).1:=by
  rw[zbw,K,z,r];simp only[List.length_nil];show scanP _ (zbw D).2 ((zaq D).seq+((zbw D).1.length:Int) - _) (zbw D).1=_
  congr 1;omega
 have A3:l=(zbw D).1:=by rw[←h.tL,fndL,if_pos w]
 have A8:(zbw D).2+(zo8 (segsOf t)).length+1≤(logOf X (zaq D).pos).length:=by rw[za7,zhu];omega
 have B1:∀x∈segsOf t,z4k N x:=by rw[←hq];exact zth L
 have A6:∀n:Nat,1≤n→n≤24→zal X n=zal D n∨(∃s∈logB t,zal X n=s)∨((commitS P U t).length≤k+1∧zal X n=zk1 t):=by
  intro n Y S;by_cases F:∀i:Nat,i≤(logB t).length→(n:Int)≠1+(P+(i:Int))%24
  ·exact .inl (r2 n (by omega) F _ (J n (by omega)))
  ·obtain⟨i,B,A⟩:∃i:Nat,i≤(logB t).length∧(n:Int)=1+(P+(i:Int))%24:=by
    refine Classical.byContradiction fun hx=>F fun i B Z=>hx ⟨i,B,Z⟩
   rcases r3 with⟨I,a1,a2⟩|⟨I,a1,a2⟩
   ·by_cases hl:i<(logB t).length
    ·rcases a1 n i hl A _ (J n (by omega)) with e|e
     ·exact .inl e
     ·exact .inr (.inl ⟨_,List.getElem_mem hl,by rw[e,List.getD,List.getElem?_eq_getElem hl];rfl⟩)
    ·have:i=(logB t).length:=by omega
     subst this;exact .inl (a2 n A _ (J n (by omega)))
   ·by_cases hl:i<(logB t).length
    ·exact .inr (.inl ⟨_,List.getElem_mem hl,by rw[a1 n i hl A _ (J n (by omega)),List.getD,List.getElem?_eq_getElem hl];rfl⟩)
    ·have:i=(logB t).length:=by omega
     subst this;rcases a2 n A _ (J n (by omega)) with⟨_,e⟩|e
     ·exact .inl e
     ·exact .inr (.inr ⟨I,e⟩)
 have p:∀n:Nat,1≤n→n≤24→NoEnd (N+1) (zal X n):=by
  intro n Y S;rcases A6 n Y S with e|⟨s,K,e⟩|⟨_,e⟩
  ·rw[e];exact(h.late n Y S).mono (by omega)
  ·rw[e];exact zl8 L _ s K
  ·rw[e,←hq];exact zwz L
 have A1:∀M,(∀n:Nat,1≤n→n≤24→NoEnd M (zal X n))→∀i,i<(logOf X (zaq D).pos).length→NoEnd M ((logOf X (zaq D).pos).getD i ByteArray.empty):=by
  intro M hM i B;rw[za7]at B;rw[lX i B];exact hM _ (by omega) (by omega)
 have d:(∀n:Nat,1≤n→n≤24→NoEnd N (zal X n))→Tells X l N P U:=by
  intro b
  have E:zbw X=zbw D:=by
   rw[c,scanP,dif_pos (by omega),zj2 (A1 N b) (Int.le_refl _) 24 _ _ (by rw[za7];omega)]
  refine⟨hX.clean,C,by rw[fndL,if_pos C,E,←A3],by rw[fndN,if_pos C,K,E];exact r.symm,by rw[←h.tP,fndP,if_pos C,K,E,fndP,if_pos w],?_,h.goods,b⟩;rw[(zjg C).1,E];exact hU.symm
 have Q:∀j:Nat,j≤(logB t).length→∃n:Nat,1≤n∧n<25∧(n:Int)=1+(P+(j:Int))%24∧(logOf X (zaq D).pos).getD ((zbw D).2+j) ByteArray.empty=zal X n∧(logOf D (zaq D).pos).getD ((zbw D).2+j) ByteArray.empty=zal D n:=by
  intro j F;refine⟨1+(((zaq D).pos+(((zbw D).2+j:Nat):Int))%24).toNat,by omega,by omega,?_,lX _ (by omega),lD _ (by omega)⟩;rw[←A9 j F];omega
 by_cases hlast:(commitS P U t).length≤k+1∧∃n:Nat,1≤n∧n≤24∧(n:Int)=1+(P+((logB t).length:Int))%24∧zal X n=zk1 t
 ·obtain⟨I,nl,A5,B9,C3,B0⟩:=hlast;refine .inr ⟨?_,I⟩;rcases r3 with⟨hk2,_,_⟩|⟨_,a1,a2⟩
  ·omega
  have A7:∀j:Nat,j<(logB t).length→(logOf X (zaq D).pos).getD ((zbw D).2+j) ByteArray.empty=(logB t).getD j ByteArray.empty:=by
   intro j F;obtain⟨n,_,m,A,eX,_⟩:=Q j (by omega);rw[eX,a1 n j F A _ (J n (by omega))]
  obtain⟨n,_,m,A,eX,eD⟩:=Q _ (Nat.le_refl _);have B7:n=nl:=by omega
  subst B7;have y:=z2q (N:=N) (cm:=⟨4,t.seq,0,[],[]⟩) (zl7 L) hq rfl (segsOf t) (logOf X (zaq D).pos) (zbw D).2 (zcv N) B1 A8 (by rw[zhu];exact A7) (by rw[zhu,eX,B0];rfl);rw[←hq,zz0 L,zhu,hq]at y;have A2:zfb (logOf X (zaq D).pos) (N+1) ((zbw D).2+(logB t).length+1) (zcv (N+1))=none:=zj2 (A1 _ p) (Int.le_refl _) 24 _ _ (by rw[za7];omega)
  have E:zbw X=((zbw D).1++[zdv t],(zbw D).2+(logB t).length+1):=by
   rw[c,scanP,dif_pos (by omega),y];simp only;rw[scanP,dif_pos (by omega),A2]
  have m:=zex t (zaz L).1 (zaz L).2.2
  have hH:zcl P U t=(P+needN t.info.length t.rev.length)%24:=by
   have O:=hS;unfold sealE at O;split at O
   ·cases O
   ·rw[zcl,if_pos hS,takeH,if_pos O]
  have B2:zce P U t=U+needN t.info.length t.rev.length:=by
   have O:=hS;unfold sealE at O;split at O
   ·cases O
   ·rw[zce,if_pos hS,takeU,if_pos O]
  refine⟨hX.clean,C,by rw[fndL,if_pos C,E,A3],?_,?_,?_,?_,p⟩
  ·rw[fndN,if_pos C,K,E];simp only[List.length_append,List.length_cons,List.length_nil];omega
  ·rw[fndP,if_pos C,K,E,hH,←m,a];simp only;omega
  ·rw[(zjg C).1,E,B2,←m,hU];simp only;omega
  ·intro u hu;rcases List.mem_append.1 hu with h6|h6
   ·exact h.goods u h6
   ·rw[List.mem_singleton.1 h6];exact hgt
 ·have b:∀n:Nat,1≤n→n≤24→NoEnd N (zal X n):=by
   intro n Y S;rcases A6 n Y S with e|⟨s,K,e⟩|⟨I,e⟩
   ·rw[e];exact h.late n Y S
   ·rw[e];exact zl8 L _ s K
   ·by_cases A:(n:Int)=1+(P+((logB t).length:Int))%24
    ·exact absurd ⟨I,n,Y,S,A,e⟩ hlast
    ·
     by_cases F:∀i:Nat,i≤(logB t).length→(n:Int)≠1+(P+(i:Int))%24
     ·rw[r2 n (by omega) F _ (J n (by omega))];exact h.late n Y S
     ·obtain⟨i,B,q⟩:∃i:Nat,i≤(logB t).length∧(n:Int)=1+(P+(i:Int))%24:=by
       refine Classical.byContradiction fun hx=>F fun i B Z=>hx ⟨i,B,Z⟩
      have A0:i<(logB t).length:=by
       rcases Nat.lt_or_ge i (logB t).length with h7|h7
       ·exact h7
       ·have:i=(logB t).length:=by omega
        subst this;exact absurd q A
      rcases r3 with⟨hk2,_,_⟩|⟨_,a1,_⟩
      ·omega
      ·rw[a1 n i A0 q _ (J n (by omega)),List.getD,List.getElem?_eq_getElem A0];exact zl8 L _ _ (List.getElem_mem A0)
  refine .inl ⟨d b,?_⟩;rcases Nat.lt_or_ge k (commitS P U t).length with h7|h7
  ·exact h7
  ·exfalso
   rcases r3 with⟨hk2,_,_⟩|⟨I,a1,a2⟩
   ·omega
   ·obtain⟨n,A5,m,A,eX,eD⟩:=Q _ (Nat.le_refl _);rcases a2 n A _ (J n (by omega)) with⟨h8,_⟩|h8
    ·omega
    ·exact hlast ⟨I,n,A5,by omega,A,h8⟩
theorem zz3{f:Int→Option ByteArray}{n b:Nat}{s:ByteArray}(hb:b<n)(h:f b=some s):((b:Int),s)∈asN f n:=by
 induction n with
 |zero=>omega
 |succ n ih=>
  rw[zee];by_cases e:b=n
  ·subst e;refine List.mem_append.2 (.inr ?_);simp[zpw,h]
  ·exact List.mem_append.2 (.inl (ih (by omega)))
theorem zq4{X:Dk}{P N:Int}(hg:za3 X=true)(hw:X.wr=[])(h0:zal X 0=encT (zbq P N))(hm:goodM (zbq P N)=0)(hl:∀n:Nat,1≤n→n≤24→NoEnd N (zal X n)):Tells X [] N P 0:=by
 have B:zaq X=zbq P N:=by rw[zaq,h0,zj1 hm]
 obtain⟨_,p1,p2⟩:=zte hm
 have A:scanE X=0:=by
  have D:readE X 0=0:=zfx hg (n:=0) (by omega);rw[scanE,D,B,h0,zj1 hm,if_neg (by simp),if_neg (by simp[zbq])]
 have C:zbw X=([],0):=by
  rw[zbw,B];show scanP (logOf X P) 0 N []=_;rw[scanP];split
  ·have E:zfb (logOf X P) N 0 (zcv N)=none:=by
    refine zj2 (N:=N) (fun i hi=>?_) (Int.le_refl _) 24 0 _ (by rw[za7];omega);rw[za7]at hi;rw[zi2 X P i hi];have e:1+(P+(i:Int))%24=((1+((P+(i:Int))%24).toNat:Nat):Int):=by omega
    rw[e];exact hl _ (by omega) (by omega)
   rw[E]
  ·rfl
 refine⟨hw,A,?_,?_,?_,?_,(fun t ht=>by cases ht),hl⟩
 ·rw[fndL,if_pos A,C]
 ·rw[fndN,if_pos A,C,B];simp[zbq]
 ·rw[fndP,if_pos A,C,B];simp[zbq];omega
 ·rw[(zjg A).1,C];rfl
theorem zem{l:List Tx}{P N:Int}(h:checkE (newestL l) P N=0):zbr (newestL l) P N=putR (newestL l) (encT (zbq P N))∧goodM (zbq P N)=0:=by
 refine⟨by rw[zbr,if_pos h];rfl,?_⟩;by_cases hx:goodM (zbq P N)=0
 ·exact hx
 ·rw[checkE,if_pos hx]at h;exact absurd h hx
theorem Tells.check{D:Dk}{l:List Tx}{N P U:Int}(h:Tells D l N P U):checkE (newestL l) P N=0:=by
 have:=z2m h.tE (by rw[h.tL];exact h.goods)
 rwa [h.tL,h.tN,h.tP]at this
theorem zz4{l:List Tx}{x:Int×ByteArray}(hx:x∈newestL l):0≤x.1∧x.1≤11∧newestF l x.1=some x.2:=by
 obtain⟨a,b,c⟩:=zoy hx;exact⟨a,by omega,c⟩
theorem zq5{D:Dk}{l:List Tx}{N P U:Int}(h:Tells D l N P U){k:Nat}{X:Dk}(hX:Crashed (runK D ((zbr (newestL l) P N).take k)) X):
  ((Tells X l N P U∧k<(zbr (newestL l) P N).length)∨(Tells X [] N P 0∧∀x∈newestL l,zal X (25+x.1)=x.2))∧
  ∀b:Nat,b<12→zal X ((25+b:Nat):Int)=zal D ((25+b:Nat):Int)∨newestF l b=some (zal X ((25+b:Nat):Int)):=by
 obtain⟨I,J⟩:=zem h.check;have F:zbb (encT (zbq P N))=true:=by have:=zff J;simp[zbb];omega
 have B:=zfg h.goods;have A:=h.good;rw[I]at hX⊢;generalize hSe:encT (zbq P N)=S at *;obtain⟨r1,Q,O⟩:=ztf B F A h.clean (fun n hn=>zfy A h.clean (by omega)) k;have A0:=zez B;have A1:(putR (newestL l) S).length≤15:=by simp[putR];omega
 refine⟨?_,fun b hb=>?_⟩
 ·have M:∀n:Nat,1≤n→n≤24→zal X n=zal D n:=fun n h1 h2=>Q n h1 (by omega) _ (hX.at_ n (by omega));by_cases hc:k<(putR (newestL l) S).length∧zal X 0=zal D 0
  ·refine .inl ⟨h.congr hX.good hX.clean (fun n hn=>?_),hc.1⟩;by_cases e:n=0
   ·subst e;exact hc.2
   ·exact M n (by omega) hn
  ·have L:zal X 0∈ways _ 0:=hX.at_ 0 (by omega);refine .inr ?_;rcases O with⟨h1,h2⟩|⟨h1,h2⟩
   ·exact absurd ⟨h1,h2 _ L⟩ hc
   ·rcases h1 _ L with h3|h3
    ·exact absurd h3 hc
    ·refine⟨zq4 hX.good hX.clean (h3.trans hSe.symm) J (fun n h4 h5=>by rw[M n h4 h5];exact h.late n h4 h5),fun x C=>?_⟩;have hb:=B.2.1 x C;have:=h2 x C _ (hX.at_ (25+x.1).toNat (by omega))
     rwa [show(((25+x.1).toNat:Nat):Int)=25+x.1 from by omega]at this
 ·have R:=zl5 (n:=25+b) (by omega) (S:=fun s=>s=zal D ((25+b:Nat):Int)∨newestF l b=some s) ((putR (newestL l) S).take k) D (fun s hs=>zl4 B F s (List.mem_of_mem_take hs)) A (by rw[h.clean,List.length_take];simp;omega) (fun s hs=>.inl (zfy A h.clean (by omega) s hs)) (fun s hs h2 he=>?_)
  ·exact R _ (hX.at_ _ (by omega))
  ·right;rcases List.mem_append.1 (List.mem_of_mem_take hs) with h3|h3
   ·rw[homeS]at h3;rcases List.mem_append.1 h3 with h4|h4
    ·obtain⟨x,C,rfl⟩:=List.mem_map.1 h4;have K:25+x.1=((25+b:Nat):Int):=he;have E:=zz4 C;have:x.1=(b:Int):=by omega
     rw[←this];exact E.2.2
    ·split at h4
     ·cases h4
     ·rw[List.mem_singleton.1 h4]at h2;exact absurd rfl h2
   ·rcases List.mem_cons.1 h3 with rfl|h4
    ·have K:(0:Int)=((25+b:Nat):Int):=he;omega
    ·rw[List.mem_singleton.1 h4]at h2;exact absurd rfl h2
theorem zn0{D:Dk}{l:List Tx}{N P U:Int}(h:Tells D l N P U):Tells (runK D (zbr (newestL l) P N)) [] N P 0∧∀b:Nat,b<12→zal (runK D (zbr (newestL l) P N)) ((25+b:Nat):Int)=(newestF l b).getD (zal D ((25+b:Nat):Int)):=by
 obtain⟨F,J⟩:=zem h.check;have C:zbb (encT (zbq P N))=true:=by have:=zff J;simp[zbb];omega
 have B:=zfg h.goods;have A:=h.good;have A0:=zez B;have I:=(zcs (putR (newestL l) (encT (zbq P N))) D (zl4 B C) A (by rw[h.clean];simp[putR];omega)).1
 have L:(runK D (putR (newestL l) (encT (zbq P N)))).wr=[]:=by
  have e:putR (newestL l) (encT (zbq P N))=(homeS (newestL l)++[zbl 0 (encT (zbq P N))])++[zb1]:=by simp[putR]
  rw[e,zcb];refine zo6 (zcs _ D (fun s hs=>zl4 B C s ?_) A (by rw[h.clean];simp;omega)).1;rw[e];exact List.mem_append.2 (.inl hs)
 have E:=zq5 h (k:=(zbr (newestL l) P N).length) (X:=runK D (zbr (newestL l) P N)) (by
  rw[List.take_length,F]
  exact zkm I L)
 rcases E.1 with⟨_,h2⟩|⟨h1,h2⟩
 ·omega
 refine⟨h1,fun b hb=>?_⟩
 cases hn:newestF l b with
 |some s=>
  have K:((b:Int),s)∈newestL l:=by
   rw[newestL];exact zz3 (by omega) hn
  have:=h2 _ K
  simpa using this
 |none=>
  rcases E.2 b hb with e|e
  ·exact e
  ·rw[hn]at e;cases e
theorem zq8{t:Tx}(h:zba t=true):zba (zdv t)=true:=by
 have A:=(za9 t).1 h;have B:=ze1 h;exact zpb (t:=zdv t) A.1 A.2.1.1 rfl A.2.2.1.1 rfl A.2.2.1.2.2 ⟨fun x hx=>⟨(fun h2=>by cases h2),(B.1 x hx).2⟩,(fun x hx=>by cases hx)⟩ ⟨rfl,rfl,rfl⟩
theorem z2t{l:List (Int×ByteArray)}(h:zbk (blksOf l)=true){x:Int×ByteArray}(hx:x∈l):zai x.1 l=some x.2:=by
 have u:Up (·.1) l:=(zfo _ _).1 ((za8 _).1 h).2;have B:=zgc u x.1;have A:x∈l.filter (fun y=>decide (y.1=x.1)):=List.mem_filter.2 ⟨hx,by simp⟩;rw[B]at A
 cases ht:zai x.1 l with
 |none=>rw[ht]at A;simp at A
 |some s=>
  rw[ht]at A;simp at A;rw[A]
theorem z4l{l:List (Int×ByteArray)}{b:Int}{s:ByteArray}(h:zai b l=some s):(b,s)∈l:=by
 induction l with
 |nil=>cases h
 |cons x r ih=>
  rw[zai]at h;split at h
  ·rename_i e;cases h;rw[←e];simp
  ·exact List.mem_cons_of_mem _ (ih h)
theorem zw4{t:Tx}(hg:zba t=true):zo7 t.data:=by
 have A:=(za9 t).1 hg;exact⟨zgh A.2.2.1.2.1,zhv hg,(zaz hg).2.1⟩
section
variable {D:Dk} {l:List Tx} {N P U:Int} {t:Tx}
theorem ztm(hS:sealE P U t=0):∀s∈commitS P U t,s.1≠2→∀b:Nat,b<12→s.2.1=((25+b:Nat):Int)→zai b t.data=some s.2.2:=by
 obtain⟨e,F,hP,_,hU⟩:=zbx hS;have I:=(za9 t).1 F;intro s E A b hb D;rw[e]at E;rcases List.mem_append.1 E with h1|h1
 ·rcases List.mem_append.1 h1 with h1|h1
  ·rcases List.mem_append.1 h1 with h1|h1
   ·rw[homeS]at h1;rcases List.mem_append.1 h1 with h3|h3
    ·obtain⟨x,J,rfl⟩:=List.mem_map.1 h3;have B:25+x.1=((25+b:Nat):Int):=D;have:x.1=(b:Int):=by omega
     rw[←this];exact z2t I.2.2.1.2.1 J
    ·split at h3
     ·cases h3
     ·rw[List.mem_singleton.1 h3]at A;exact absurd rfl A
   ·obtain⟨i,A0,C,rfl⟩:=zjf h1;rw[zbo]at C;have B:1+(zbu P ((logB t).length+1)).getD i 0=((25+b:Nat):Int):=D;rw[zdi _ _ _ C]at B;omega
  ·rw[sealF]at h1;split at h1
   ·rw[List.mem_singleton.1 h1]at A;exact absurd rfl A
   ·cases h1
 ·rcases List.mem_cons.1 h1 with rfl|h3
  ·have B:1+(P+((logB t).length:Int))%24=((25+b:Nat):Int):=D;omega
  ·rw[List.mem_singleton.1 h3]at A;exact absurd rfl A
theorem zn5(h:Tells D l N P U)(hS:sealE P U t=0){k:Nat}{X:Dk}(hX:Crashed (runK D ((commitS P U t).take k)) X):
  (∀b:Nat,b<12→zal X ((25+b:Nat):Int)=zal D ((25+b:Nat):Int)∨zai b t.data=some (zal X ((25+b:Nat):Int)))∧
  ((commitS P U t).length≤k+1→∀b:Nat,b<12→zal X ((25+b:Nat):Int)=(zai b t.data).getD (zal D ((25+b:Nat):Int))):=by
 have J:=h.good;obtain⟨L,M⟩:=zhw hS;obtain⟨e,Y,hP,_,hU⟩:=zbx hS;have hi:=(za9 t).1 Y
 have I:∀b:Nat,b<12→zal X ((25+b:Nat):Int)=zal D ((25+b:Nat):Int)∨zai b t.data=some (zal X ((25+b:Nat):Int)):=by
  intro b hb;have r:=zl5 (n:=25+b) (by omega) (S:=fun s=>s=zal D ((25+b:Nat):Int)∨zai b t.data=some s) ((commitS P U t).take k) D (fun s hs=>L s (List.mem_of_mem_take hs)) J (by rw[h.clean,List.length_take];simp;omega) (fun s hs=>.inl (zfy J h.clean (by omega) s hs)) (fun s hs h2 B=>.inr (ztm hS s (List.mem_of_mem_take hs) h2 b hb B));exact r _ (hX.at_ _ (by omega))
 refine⟨I,fun hk b hb=>?_⟩
 cases ht:zai b t.data with
 |none=>
  rcases I b hb with e1|e1
  ·exact e1
  ·rw[ht]at e1;cases e1
 |some s=>
  have d:=zw4 Y;obtain⟨p,a2,a3,j⟩:=zhb d J h.clean (fun n hn=>zfy J h.clean (by omega));have O:=z4l ht;have Z:=j _ O;have Q:(25+(b:Int)).toNat=25+b:=by omega
  rw[Q]at Z;have A1:=zez d;obtain⟨rest,A⟩:∃rest,commitS P U t=homeS t.data++rest:=⟨_,by rw[e,sealA,List.append_assoc,List.append_assoc]⟩
  have A4:2≤rest.length:=by
   have:(commitS P U t).length=(homeS t.data).length+rest.length:=by rw[A,List.length_append]
   rw[e]at this;simp[sealA]at this;omega
  have a:(commitS P U t).take k=homeS t.data++rest.take (k - (homeS t.data).length):=by
   rw[A,List.take_append,List.take_of_length_le];rw[A,List.length_append]at hk;omega
  have A5:rest.length≤50:=by rw[A,List.length_append]at M;omega
  rw[a,zcb]at hX
  have R:∀C∈rest.take (k - (homeS t.data).length),C.1≠2→C.2.1≠((25+b:Nat):Int):=by
   intro C F _ B
   have A0:C∈sealA P t++sealF t++[zhc P t,zb1]:=by
    rw[←e,A];exact List.mem_append.2 (.inr (List.mem_of_mem_take F))
   have m:C∈putS (zbu P ((logB t).length+1)) (logB t)++(sealF t++[zhc P t,zb1]):=by
    have q:homeS t.data++rest=homeS t.data++(putS (zbu P ((logB t).length+1)) (logB t)++(sealF t++[zhc P t,zb1])):=by
     rw[←A,e,sealA,List.append_assoc,List.append_assoc]
    rw[←List.append_cancel_left q];exact List.mem_of_mem_take F
   rcases List.mem_append.1 m with h1|h1
   ·obtain⟨i,A2,K,rfl⟩:=zjf h1;rw[zbo]at K;have E:1+(zbu P ((logB t).length+1)).getD i 0=((25+b:Nat):Int):=B;rw[zdi _ _ _ K]at E;omega
   ·rcases List.mem_append.1 h1 with h3|h3
    ·rw[sealF]at h3;split at h3
     ·rename_i A3;rw[List.mem_singleton.1 h3]at B;have E:(0:Int)=((25+b:Nat):Int):=B;omega
     ·cases h3
    ·rcases List.mem_cons.1 h3 with rfl|h5
     ·have E:1+(P+((logB t).length:Int))%24=((25+b:Nat):Int):=B;omega
     ·rw[List.mem_singleton.1 h5]at B;have E:(0:Int)=((25+b:Nat):Int):=B;omega
  have c:=zht (n:=25+b) (by omega) (rest.take (k - (homeS t.data).length)) (runK D (homeS t.data)) (fun C F=>L C (by rw[A];exact List.mem_append.2 (.inr (List.mem_of_mem_take F)))) p (by rw[List.length_take];omega) Z R;exact c _ (hX.at_ _ (by omega))
theorem zz7(h:Tells D l N P U)(hN:N<2147483646)(hq:t.seq=N)(hS:sealE P U t=0):
  Tells (runK D (commitS P U t)) (l++[zdv t]) (N+1) (zcl P U t) (zce P U t)∧∀b:Nat,b<12→zal (runK D (commitS P U t)) ((25+b:Nat):Int)=(zai b t.data).getD (zal D ((25+b:Nat):Int)):=by
 obtain⟨B,A0⟩:=zhw hS;obtain⟨e,I,_,_,_⟩:=zbx hS;have A:=h.good;have F:=(zcs (commitS P U t) D B A (by rw[h.clean];simp;omega)).1
 have J:(runK D (commitS P U t)).wr=[]:=by
  have C:commitS P U t=(sealA P t++sealF t++[zhc P t])++[zb1]:=by rw[e];simp
  rw[C,zcb]
  have hl:(sealA P t++sealF t++[zhc P t]).length≤50:=by
   have:(commitS P U t).length=(sealA P t++sealF t++[zhc P t]).length+1:=by rw[C,List.length_append];rfl
   omega
  exact zo6 (zcs _ D (fun s hs=>B s (by rw[C];exact List.mem_append.2 (.inl hs))) A (by rw[h.clean];simp only[List.length_nil];omega)).1
 have E:Crashed (runK D ((commitS P U t).take (commitS P U t).length)) (runK D (commitS P U t)):=by
  rw[List.take_length];exact zkm F J
 refine⟨?_,(zn5 h hS E).2 (by omega)⟩;rcases zva h hN hq hS (zq8 I) (Nat.le_refl _) E with⟨_,h2⟩|⟨h1,_⟩
 ·omega
 ·exact h1
end
theorem zea(l:List Tx)(b:Int):newestF (l.map zdv) b=newestF l b:=by
 unfold newestF;rw[List.foldl_map];rfl
theorem zfh(l:List Tx):newestL (l.map zdv)=newestL l:=by
 rw[newestL,newestL];exact zyk fun j _=>zea l j
def zve (t:Tx):Bool:=zia t|| !zfd t
structure Pow (j:Jn):Prop where
 up:j.down=false
 good:zba j.now=true
 seq:j.now.seq≤j.acts+1
 fL:j.fL=[]
 fN:j.fN=0
 room:zve j.now=true→ze5 (zb2 j.now)≤24 - j.ru
structure Dn (j:Jn)(N:Int):Prop where
 off:j.down=true
 now:j.now=zcv 0
 sealed:j.sealed=zcv 0
 done:j.done=[]
 ru:j.ru=0
 rh:j.rh=0
 last0:0≤j.last
 lo:j.last+1≤N
 hi:N≤j.last+2
 seq:N≤j.acts+1
inductive Md (j:Jn)(D:Dk):Prop
 |idle (p:Pow j) (hs:j.steps=[]) (hz:j.sealed=zcv 0) (hD:j.disk=D) (ht:Tells D (j.done.map zdv) (j.last+1) j.rh j.ru) (hq:j.now.seq=j.last+1)
 |commit (P U:Int) (k:Nat) (p:Pow j) (hw:j.work=6) (hk:k<(commitS P U j.sealed).length) (hs:j.steps=(commitS P U j.sealed).drop k) (hD:j.disk=runK D ((commitS P U j.sealed).take k)) (ht:Tells D (j.done.map zdv) (j.last+1) P U)
   (he:sealE P U j.sealed=0) (hse:j.sealed.seq=j.last+1) (hrh:j.rh=zcl P U j.sealed) (hru:j.ru=zce P U j.sealed) (hq:j.now.seq=j.last+2) (hN:j.last+1<2147483646)
 |check (k:Nat) (p:Pow j) (hw:j.work=7) (hz:j.sealed=zcv 0) (hk:k<(zbr (newestL j.done) j.rh (j.last+1)).length) (hs:j.steps=(zbr (newestL j.done) j.rh (j.last+1)).drop k) (hD:j.disk=runK D ((zbr (newestL j.done) j.rh (j.last+1)).take k)) (ht:Tells D (j.done.map zdv) (j.last+1) j.rh j.ru) (hq:j.now.seq=j.last+1)
 |off (l:List Tx) (N P U:Int) (p:Dn j N) (hs:j.steps=[]) (hf:j.fL=[]∧j.fN=0) (hD:j.disk=D) (ht:Tells D l N P U)
 |back (U:Int) (k:Nat) (p:Dn j j.fN) (hw:j.work=11) (hk:k<(zbr (newestL j.fL) j.fP j.fN).length) (hs:j.steps=(zbr (newestL j.fL) j.fP j.fN).drop k) (hD:j.disk=runK D ((zbr (newestL j.fL) j.fP j.fN).take k)) (ht:Tells D j.fL j.fN j.fP U)
def zj5 (D:Dk)(b:Nat):ByteArray:=(newestF (fndL D) b).getD (zal D ((25+b:Nat):Int))
inductive Left (j:Jn)(D X:Dk):Prop
 |all (hN:fndN X=fndN D) (hL:fndL X=fndL D∨fndL X=[]) (he:∀b:Nat,b<12→zj5 X b=zj5 D b) (hc:j.down=false→j.sealed=zcv 0)
 |without (hu:j.down=false) (hse:j.sealed.seq=j.last+1) (hN:fndN X=fndN D) (hL:fndL X=fndL D) (hh:∀b:Nat,b<12→zal X ((25+b:Nat):Int)=zal D ((25+b:Nat):Int)∨zai b j.sealed.data=some (zal X ((25+b:Nat):Int)))
 |whole (hu:j.down=false) (hse:j.sealed.seq=j.last+1) (hN:fndN X=fndN D+1) (hL:fndL X=fndL D++[zdv j.sealed]) (hh:∀b:Nat,b<12→zal X ((25+b:Nat):Int)=(zai b j.sealed.data).getD (zal D ((25+b:Nat):Int)))
inductive Trans (j:Jn)(D:Dk)(a:Ac):Jn→Rp→Dk→Prop
 |plain {j':Jn} {r:Rp} (m:Move j a j' r) (hp:r.code=0→a.kind≠10∧(a.kind=8→∃s q,j.steps=s::q∧q≠[]∧r=zat 0∧j'={j with disk:=zbh j.disk s,steps:=q})):Trans j D a j' r D
 |through (Y:Dk) (hk:a.kind=8) (hu:j.down=false) (hse:j.sealed.seq=j.last+1) (hg:zba j.sealed=true) (hN:fndN Y=fndN D+1) (hL:fndL Y=fndL D++[zdv j.sealed]) (hh:∀b:Nat,b<12→zal Y ((25+b:Nat):Int)=(zai b j.sealed.data).getD (zal D ((25+b:Nat):Int))):
   Trans j D a {j with disk:=Y,steps:=[],sealed:=zcv 0,done:=j.done++[j.sealed],last:=j.sealed.seq} ⟨0,j.sealed.seq,⟨#[]⟩⟩ Y
 |home (Y:Dk) (hk:a.kind=8) (hu:j.down=false) (hz:j.sealed=zcv 0) (hN:fndN Y=fndN D) (hL:fndL Y=[]) (hh:∀b:Nat,b<12→zal Y ((25+b:Nat):Int)=zj5 D b):
   Trans j D a {j with disk:=Y,steps:=[],done:=[],ru:=0} (zat 0) Y
 |on (Y:Dk) (hk:a.kind=8) (hd:j.down=true) (hfN:j.fN=fndN D) (hfL:j.fL=fndL D) (hN:fndN Y=fndN D) (hL:fndL Y=[]) (hh:∀b:Nat,b<12→zal Y ((25+b:Nat):Int)=zj5 D b):
   Trans j D a (zlg {j with disk:=Y,steps:=[]}) (zat 0) Y
 |crash (hk:a.kind=10) (hn:0≤a.n) (X:Dk) (hX:X=crashK j.disk a.n) (left:Left j D X):
   Trans j D a ⟨j.acts,X,0,0,j.last,true,fun _=>0,fun _=>0,zcv 0,zcv 0,[],[],0,0,0,[]⟩ (zat 0) X
section
variable {j:Jn} {D:Dk}
theorem Md.disk(h:Md j D):za3 j.disk=true:=by
 cases h with
 |idle p hs hz hD ht hq=>rw[hD];exact ht.good
 |commit P U k p hw hk hs hD ht he hse hrh hru hq hN=>
  rw[hD];obtain⟨J,A0⟩:=zhw he;exact(zcs _ D (fun s hs=>J s (List.mem_of_mem_take hs)) ht.good (by rw[ht.clean,List.length_take];simp;omega)).1
 |check k p hw hz hk hs hD ht hq=>
  rw[hD];have I:=ht.check;rw[zfh]at I;obtain⟨A,F⟩:=zem I;have E:zbb (encT (zbq j.rh (j.last+1)))=true:=by have:=zff F;simp[zbb];omega
  have B:zo7 (newestL j.done):=by have:=zfg ht.goods;rwa [zfh]at this
  have C:=zez B;rw[A];exact(zcs _ D (fun s hs=>zl4 B E s (List.mem_of_mem_take hs)) ht.good (by rw[ht.clean,List.length_take];simp[putR];omega)).1
 |off l N P U p hs hf hD ht=>rw[hD];exact ht.good
 |back U k p hw hk hs hD ht=>
  rw[hD];obtain⟨A,F⟩:=zem ht.check;have E:zbb (encT (zbq j.fP j.fN))=true:=by have:=zff F;simp[zbb];omega
  have B:=zfg ht.goods;have C:=zez B;rw[A];exact(zcs _ D (fun s hs=>zl4 B E s (List.mem_of_mem_take hs)) ht.good (by rw[ht.clean,List.length_take];simp[putR];omega)).1
theorem Md.last0(h:Md j D):0≤j.last:=by
 cases h with
 |idle p hs hz hD ht hq=>have:=ht.range.1.1;omega
 |commit P U k p hw hk hs hD ht he hse hrh hru hq hN=>have:=ht.range.1.1;omega
 |check k p hw hz hk hs hD ht hq=>have:=ht.range.1.1;omega
 |off l N P U p hs hf hD ht=>exact p.last0
 |back U k p hw hk hs hD ht=>exact p.last0
theorem Md.bump(h:Md j D){x:Int}(hx:j.acts≤x):Md {j with acts:=x} D:=by
 have A:Pow j→Pow {j with acts:=x}:=fun p=>⟨p.up,p.good,by have:=p.seq;show j.now.seq≤x+1;omega,p.fL,p.fN,p.room⟩
 have B:∀N,Dn j N→Dn {j with acts:=x} N:=fun N p=>⟨p.off,p.now,p.sealed,p.done,p.ru,p.rh,p.last0,p.lo,p.hi,by have:=p.seq;show N≤x+1;omega⟩
 cases h with
 |idle p hs hz hD ht hq=>exact .idle (A p) hs hz hD ht hq
 |commit P U k p hw hk hs hD ht he hse hrh hru hq hN=>exact .commit P U k (A p) hw hk hs hD ht he hse hrh hru hq hN
 |check k p hw hz hk hs hD ht hq=>exact .check k (A p) hw hz hk hs hD ht hq
 |off l N P U p hs hf hD ht=>exact .off l N P U (B _ p) hs hf hD ht
 |back U k p hw hk hs hD ht=>exact .back U k (B _ p) hw hk hs hD ht
theorem Md.now(h:Md j D)(hu:j.down=false){t:Tx}(hq:t.seq=j.now.seq)(hg:zba t=true)(hr:zve t=true→ze5 (zb2 t)≤24 - j.ru)(f g:Nat→Int):Md {j with role:=f,freed:=g,now:=t} D:=by
 have A:Pow j→Pow {j with role:=f,freed:=g,now:=t}:=fun p=>⟨p.up,hg,by have:=p.seq;show t.seq≤j.acts+1;omega,p.fL,p.fN,hr⟩
 cases h with
 |idle p hs hz hD ht hq2=>exact .idle (A p) hs hz hD ht (hq.trans hq2)
 |commit P U k p hw hk hs hD ht he hse hrh hru hq2 hN=>exact .commit P U k (A p) hw hk hs hD ht he hse hrh hru (hq.trans hq2) hN
 |check k p hw hz hk hs hD ht hq2=>exact .check k (A p) hw hz hk hs hD ht (hq.trans hq2)
 |off l N P U p hs hf hD ht=>rw[p.off]at hu;cases hu
 |back U k p hw hk hs hD ht=>rw[p.off]at hu;cases hu
theorem Md.pow(h:Md j D)(hu:j.down=false):Pow j:=by
 cases h with
 |idle p hs hz hD ht hq2=>exact p
 |commit P U k p hw hk hs hD ht he hse hrh hru hq2 hN=>exact p
 |check k p hw hz hk hs hD ht hq2=>exact p
 |off l N P U p hs hf hD ht=>rw[p.off]at hu;cases hu
 |back U k p hw hk hs hD ht=>rw[p.off]at hu;cases hu
theorem zfz{l:List St}{k:Nat}{s:St}{r:List St}(h:s::r=l.drop k):l[k]?=some s∧r=l.drop (k+1)∧k<l.length:=by
 have A:k<l.length:=by
  rcases Nat.lt_or_ge k l.length with h1|h1
  ·exact h1
  ·rw[List.drop_of_length_le h1]at h;cases h
 rw[List.drop_eq_getElem_cons A]at h
 injection h with h1 h2
 exact⟨by rw[h1];exact List.getElem?_eq_getElem A,h2,A⟩
theorem Md.step(h:Md j D){s:St}{r:List St}(hs:j.steps=s::r)(hr:r≠[]):Md {j with disk:=zbh j.disk s,steps:=r} D:=by
 have C:Pow j→Pow {j with disk:=zbh j.disk s,steps:=r}:=fun p=>⟨p.up,p.good,p.seq,p.fL,p.fN,p.room⟩
 have more:∀(S:List St) (k:Nat),s::r=S.drop k→k+1<S.length:=by
  intro S k e;obtain⟨_,A,_⟩:=zfz e;rcases Nat.lt_or_ge (k+1) S.length with h1|h1
  ·exact h1
  ·rw[List.drop_of_length_le h1]at A;exact absurd A hr
 cases h with
 |idle p hs2 hz hD ht hq=>rw[hs2]at hs;cases hs
 |commit P U k p hw hk hs2 hD ht he hse hrh hru hq hN=>
  rw[hs]at hs2;obtain⟨B,A,_⟩:=zfz hs2;exact .commit P U (k+1) (C p) hw (more _ _ hs2) A (by show zbh j.disk s=_;rw[zi4 B,hD]) ht he hse hrh hru hq hN
 |check k p hw hz hk hs2 hD ht hq=>
  rw[hs]at hs2;obtain⟨B,A,_⟩:=zfz hs2;exact .check (k+1) (C p) hw hz (more _ _ hs2) A (by show zbh j.disk s=_;rw[zi4 B,hD]) ht hq
 |off l N P U p hs2 hf hD ht=>rw[hs2]at hs;cases hs
 |back U k p hw hk hs2 hD ht=>
  rw[hs]at hs2;obtain⟨B,A,_⟩:=zfz hs2;exact .back U (k+1) ⟨p.off,p.now,p.sealed,p.done,p.ru,p.rh,p.last0,p.lo,p.hi,p.seq⟩ hw (more _ _ hs2) A (by show zbh j.disk s=_;rw[zi4 B,hD]) ht
theorem Md.crash(h:Md j D){q:Int}(hq0:0≤q):∃l N P U,Tells (crashK j.disk q) l N P U∧j.last+1≤N∧N≤j.last+2∧N≤j.acts+1∧Left j D (crashK j.disk q):=by
 obtain⟨_,C⟩:=zw0 h.disk hq0;generalize crashK j.disk q=X at *
 have F:∀{l:List Tx} {N P U:Int} {D X:Dk},Tells D l N P U→Tells X l N P U→(∀n:Nat,n<37→zal X n=zal D n)→∀b:Nat,b<12→zj5 X b=zj5 D b:=by
  intro l N P U D X A B E b hb;rw[zj5,zj5,A.tL,B.tL,E (25+b) (by omega)]
 have I:∀{l:List Tx} {N P U:Int} {k:Nat} {D X:Dk},Tells D l N P U→Crashed (runK D ((zbr (newestL l) P N).take k)) X→∃J K,Tells X J N P K∧(fndL X=fndL D∨fndL X=[])∧∀b:Nat,b<12→zj5 X b=zj5 D b:=by
  intro l N P U k D X A B;obtain⟨c1,c2⟩:=zq5 A B;rcases c1 with⟨c1,_⟩|⟨c1,c3⟩
  ·refine⟨l,U,c1,.inl (c1.tL.trans A.tL.symm),fun b hb=>?_⟩;rw[zj5,zj5,c1.tL,A.tL];rcases c2 b hb with e|e
   ·rw[e]
   ·rw[e];rfl
  ·refine⟨[],0,c1,.inr c1.tL,fun b hb=>?_⟩;rw[zj5,zj5,c1.tL,A.tL];show zal X ((25+b:Nat):Int)=_
   cases hn:newestF l b with
   |some s=>
    have:=c3 _ (zz3 (n:=12) (by omega) hn)
    simpa using this
   |none=>
    rcases c2 b hb with e|e
    ·exact e
    ·rw[hn]at e;cases e
 cases h with
 |idle p hs hz hD ht hq=>
  rw[hD]at C;obtain⟨A,B⟩:=ht.still C;have:=p.seq;exact⟨_,_,_,_,A,by omega,by omega,by omega,.all (A.tN.trans ht.tN.symm) (.inl (A.tL.trans ht.tL.symm)) (F ht A B) (fun _=>hz)⟩
 |commit P U k p hw hk hs hD ht he hse hrh hru hq hN=>
  rw[hD]at C;have M:=(zbx he).2.1;have L:=zn5 ht he C;have:=p.seq;rcases zva ht hN hse he (zq8 M) (Nat.le_of_lt hk) C with⟨A,_⟩|⟨A,B⟩
  ·exact⟨_,_,_,_,A,by omega,by omega,by omega,.without p.up hse (A.tN.trans ht.tN.symm) (A.tL.trans ht.tL.symm) L.1⟩
  ·exact⟨_,_,_,_,A,by omega,by omega,by omega,.whole p.up hse (by rw[A.tN,ht.tN]) (by rw[A.tL,ht.tL]) (L.2 B)⟩
 |check k p hw hz hk hs hD ht hq=>
  rw[hD,←zfh]at C;obtain⟨J,K,A,B,E⟩:=I ht C;have:=p.seq;exact⟨_,_,_,_,A,by omega,by omega,by omega,.all (A.tN.trans ht.tN.symm) B E (fun _=>hz)⟩
 |off l N P U p hs hf hD ht=>
  rw[hD]at C;obtain⟨A,B⟩:=ht.still C;exact⟨_,_,_,_,A,p.lo,p.hi,p.seq,.all (A.tN.trans ht.tN.symm) (.inl (A.tL.trans ht.tL.symm)) (F ht A B) (fun _=>p.sealed)⟩
 |back U k p hw hk hs hD ht=>
  rw[hD]at C;obtain⟨J,K,A,B,E⟩:=I ht C;exact⟨_,_,_,_,A,p.lo,p.hi,p.seq,.all (A.tN.trans ht.tN.symm) B E (fun _=>p.sealed)⟩
end
section
variable (t:Tx) (h b n free:Int) (s:ByteArray)
theorem z2w:zcz t 0 h b n free s=zbc t h n free:=by rw[zcz,if_pos rfl]
theorem z2x:zcm t 0 h b n free s=zaw t h n free:=by rw[zcm,if_pos rfl]
theorem z2y:zcz t 1 h b n free s=changeE t h b s:=by rw[zcz,if_neg (by decide),if_pos rfl]
theorem z2z:zcm t 1 h b n free s=zaf t h b s:=by rw[zcm,if_neg (by decide),if_pos rfl]
theorem z21:zcz t 2 h b n free s=fillE t h b s:=by rw[zcz,if_neg (by decide),if_neg (by decide),if_pos rfl]
theorem z22:zcm t 2 h b n free s=zao t h b s:=by rw[zcm,if_neg (by decide),if_neg (by decide),if_pos rfl]
theorem z23:zcz t 3 h b n free s=revokeE t h b:=by rw[zcz,if_neg (by decide),if_neg (by decide),if_neg (by decide),if_pos rfl]
theorem z24:zcm t 3 h b n free s=zag t h b:=by rw[zcm,if_neg (by decide),if_neg (by decide),if_neg (by decide),if_pos rfl]
theorem z25:zcz t 4 h b n free s=zda t h:=by rw[zcz,if_neg (by decide),if_neg (by decide),if_neg (by decide),if_neg (by decide)]
theorem z26:zcm t 4 h b n free s=zb3 t h:=by rw[zcm,if_neg (by decide),if_neg (by decide),if_neg (by decide),if_neg (by decide)]
end
section
variable {j:Jn} {D:Dk} {a:Ac}
theorem zw6{t:Tx}{k h b n free:Int}{s:ByteArray}:(zcm t k h b n free s).seq=t.seq:=by
 have A:∀(h:Int) (x:Hd),(ze6 t h x).seq=t.seq:=fun h x=>by unfold ze6;split;rfl;split<;>rfl
 unfold zcm;split
 ·rw[zaw];split;exact A _ _;rfl
 split
 ·rw[zaf];split;exact ze0 t h b;rfl
 split
 ·rw[zao];split<;>rfl
 split
 ·rw[zag];split;exact ze0 t h b;rfl
 ·rw[zb3];split;exact A _ _;rfl
theorem Md.order(h:Md j D)(hu:j.down=false){k hh b n:Int}{s:ByteArray}(he:zcz j.now k hh b n (24 - j.ru) s=0)(f g:Nat→Int):Md {j with role:=f,freed:=g,now:=zcm j.now k hh b n (24 - j.ru) s} D:=by
 have p:=h.pow hu;obtain⟨E,I,J⟩:=zq9 (k:=k) (h:=hh) (b:=b) (n:=n) (free:=24 - j.ru) (s:=s) p.good;refine h.now hu zw6 E (fun _=>?_) f g;by_cases hk:k=0
 ·exact J he hk
 ·have C:zve j.now=true:=by
   have A:(zes j.now hh).on=true:=by
    unfold zcz at he;rw[if_neg hk]at he;split at he
    ·exact(zcc (zjj he).1).2.2.1
    split at he
    ·exact(zcc (ztl he).1).2.2.1
    split at he
    ·exact(zcc (zjk he).1).2.2.1
    ·unfold zda at he;split at he
     ·cases he
     ·split at he
      ·cases he
      ·rename_i B;simp only[not_or,Bool.not_eq_false]at B;exact B.2.2
   have F:zia j.now=true:=by
    unfold zes at A;unfold zia;split at A
    ·simp[A]
    ·split at A<;>simp[A]
   rw[zve,F];rfl
  exact Int.le_trans (zz8 (I hk)) (p.room C)
theorem zpe{q:Int}(h1:1≤q)(h2:q≤2147483647):zba (zcv q)=true:=by
 have B:decide (1≤q)=true:=by simpa using h1
 have A:decide (q≤2147483647)=true:=by simpa using h2
 show zba ⟨q,[],[],[],⟨false,0⟩,⟨false,0⟩,⟨false,0⟩⟩=true;unfold zba;simp only[B,A];rfl
theorem Md.move{j':Jn}{r:Rp}(h:Md j D)(m:Move j a j' r)(hc:a.kind=6→j.steps=[]→j.now.seq≤j.acts):∃D',Md j' D'∧Trans j D a j' r D':=by
 have B:∀{j':Jn} {r:Rp},Move j a j' r→a.kind≠10→a.kind≠8→Md j' D→∃D',Md j' D'∧Trans j D a j' r D':=fun m h10 h8 hm=>⟨D,hm,.plain m fun _=>⟨h10,fun e=>absurd e h8⟩⟩
 cases m with
 |no e he=>exact⟨D,h,.plain (.no e he) fun e0=>absurd e0 he⟩
 |read hd hk hb A=>exact B (.read hd hk hb A) (by omega) (by omega) h
 |begin hd hk he=>exact B (.begin hd hk he) (by omega) (by omega) (by have C:=h.order hd (k:=0) (hh:=a.h) (b:=0) (n:=a.n) (s:=⟨#[]⟩) (by rw[z2w];exact he) j.role j.freed;rw[z2x]at C;exact C)
 |stop hd hk he=>exact B (.stop hd hk he) (by omega) (by omega) (by have C:=h.order hd (k:=4) (hh:=a.h) (b:=0) (n:=0) (s:=⟨#[]⟩) (by rw[z25];exact he) j.role j.freed;rw[z26]at C;exact C)
 |write hd hk he F=>exact B (.write hd hk he F) (by omega) (by omega) (by have C:=h.order hd (k:=1) (hh:=a.h) (b:=a.b) (n:=0) (s:=fitT a.text) (by rw[z2y];exact he) (upd j.role a.b 1) j.freed;rw[z2z]at C;exact C)
 |fill hd hk he F hf=>exact B (.fill hd hk he F hf) (by omega) (by omega) (by have C:=h.order hd (k:=2) (hh:=a.h) (b:=a.b) (n:=0) (s:=fitT a.text) (by rw[z21];exact he) (upd j.role a.b 2) j.freed;rw[z22]at C;exact C)
 |revoke hd hk he F=>exact B (.revoke hd hk he F) (by omega) (by omega) (by have C:=h.order hd (k:=3) (hh:=a.h) (b:=a.b) (n:=0) (s:=⟨#[]⟩) (by rw[z23];exact he) (upd j.role a.b 0) (upd j.freed a.b (zag j.now a.h a.b).seq);rw[z24]at C;exact C)
 |commit hd hk hs ho hm hq he=>
  refine B (.commit hd hk hs ho hm hq he) (by omega) (by omega) ?_
  cases h with
  |idle p hs2 hz hD A hq2=>
   obtain⟨e,Y,_⟩:=zbx he;have I:0<(commitS j.rh j.ru j.now).length:=by rw[e];simp only[List.length_append,List.length_cons,List.length_nil];omega
   have C:=A.range.1.1;have R:=hc hk hs;refine .commit j.rh j.ru 0 ⟨p.up,zpe (by omega) (by omega),?_,p.fL,p.fN,fun hb=>by cases hb⟩ rfl I rfl hD A he hq2 rfl rfl ?_ ?_
   ·show j.now.seq+1≤j.acts+1;omega
   ·show j.now.seq+1=j.last+2;omega
   ·show j.last+1<2147483646;omega
  |commit P U k p hw hk2 hs2 hD A he2 hse hrh hru hq2 hN=>
   rw[hs]at hs2;have:=congrArg List.length hs2;rw[List.length_drop]at this;simp at this;omega
  |check k p hw hz hk2 hs2 hD A hq2=>
   rw[hs]at hs2;have:=congrArg List.length hs2;rw[List.length_drop]at this;simp at this;omega
  |off l N P U p hs2 hf hD A=>rw[p.off]at hd;cases hd
  |back U k p hw hk2 hs2 hD A=>rw[p.off]at hd;cases hd
 |check hd hk hs O he=>
  refine B (.check hd hk hs O he) (by omega) (by omega) ?_
  cases h with
  |idle p hs2 hz hD A hq2=>
   have I:0<(zbr (newestL j.done) j.rh (j.last+1)).length:=by rw[(zem he).1];simp[putR]
   exact .check 0 ⟨p.up,p.good,p.seq,p.fL,p.fN,p.room⟩ rfl hz I rfl hD A hq2
  |commit P U k p hw hk2 hs2 hD A he2 hse hrh hru hq2 hN=>
   rw[hs]at hs2;have:=congrArg List.length hs2;rw[List.length_drop]at this;simp at this;omega
  |check k p hw hz hk2 hs2 hD A hq2=>
   rw[hs]at hs2;have:=congrArg List.length hs2;rw[List.length_drop]at this;simp at this;omega
  |off l N P U p hs2 hf hD A=>rw[p.off]at hd;cases hd
  |back U k p hw hk2 hs2 hD A=>rw[p.off]at hd;cases hd
 |step hk s q hs he F=>exact⟨D,h.step hs F,.plain (.step hk s q hs he F) fun _=>⟨by omega,fun _=>⟨s,q,hs,F,rfl,rfl⟩⟩⟩
 |last hk s hs he=>
  have M:∀(S:List St) (k:Nat),[s]=S.drop k→zbh (runK D (S.take k)) s=runK D S:=by
   intro S k e;obtain⟨i,d,e3⟩:=zfz e;rw[←zi4 i]
   have:S.length≤k+1:=by
    have:=congrArg List.length d;rw[List.length_drop]at this;simp at this;omega
   rw[List.take_of_length_le this]
  cases h with
  |idle p hs2 hz hD A hq2=>rw[hs2]at hs;cases hs
  |commit P U k p hw hk2 hs2 hD A he2 hse hrh hru hq2 hN=>
   rw[hs]at hs2;have J:zbh j.disk s=runK D (commitS P U j.sealed):=by rw[hD];exact M _ _ hs2
   obtain⟨E,L⟩:=zz7 A hN hse he2;have Y:=(zbx he2).2.1;refine⟨runK D (commitS P U j.sealed),?_,?_⟩
   ·rw[zb4,if_pos hw,J];refine .idle ⟨p.up,p.good,p.seq,p.fL,p.fN,p.room⟩ rfl rfl rfl ?_ ?_
    ·show Tells _ ((j.done++[j.sealed]).map zdv) (j.sealed.seq+1) j.rh j.ru;rw[List.map_append,hrh,hru,hse];exact E
    ·show j.now.seq=j.sealed.seq+1;omega
   ·rw[zb4,if_pos hw,J];exact .through _ hk p.up hse Y (by rw[E.tN,A.tN]) (by rw[E.tL,A.tL]) L
  |check k p hw hz hk2 hs2 hD A hq2=>
   rw[hs]at hs2;have J:zbh j.disk s=runK D (zbr (newestL j.done) j.rh (j.last+1)):=by rw[hD];exact M _ _ hs2
   obtain⟨E,L⟩:=zn0 A;rw[zfh]at E L;have K:¬j.work=6:=by omega
   refine⟨runK D (zbr (newestL j.done) j.rh (j.last+1)),?_,?_⟩
   ·rw[zb4,if_neg K,if_pos hw,J];refine .idle ⟨p.up,p.good,p.seq,p.fL,p.fN,fun hb=>?_⟩ rfl hz rfl E hq2;have:=p.room hb;have h5:=A.range.2.2.1;show ze5 (zb2 j.now)≤24 - 0;omega
   ·rw[zb4,if_neg K,if_pos hw,J];exact .home _ hk p.up hz (by rw[E.tN,A.tN]) E.tL (fun b hb=>by rw[L b hb,zj5,A.tL])
  |off l N P U p hs2 hf hD A=>rw[hs2]at hs;cases hs
  |back U k p hw hk2 hs2 hD A=>
   rw[hs]at hs2;have J:zbh j.disk s=runK D (zbr (newestL j.fL) j.fP j.fN):=by rw[hD];exact M _ _ hs2
   obtain⟨E,L⟩:=zn0 A;have K:¬j.work=6:=by omega
   have Q:¬j.work=7:=by omega
   have F:=A.range;refine⟨runK D (zbr (newestL j.fL) j.fP j.fN),?_,?_⟩
   ·rw[zb4,if_neg K,if_neg Q,if_pos hw,J];have X:=p.seq;refine .idle ⟨rfl,zpe F.1.1 F.1.2,X,rfl,rfl,fun hb=>by cases hb⟩ rfl rfl rfl ?_ ?_
    ·show Tells _ [] (j.fN - 1+1) j.fP 0;rw[show j.fN - 1+1=j.fN from by omega];exact E
    ·show j.fN=j.fN - 1+1;omega
   ·rw[zb4,if_neg K,if_neg Q,if_pos hw,J];exact .on _ hk p.off A.tN.symm A.tL.symm (by rw[E.tN,A.tN]) E.tL (fun b hb=>by rw[L b hb,zj5,A.tL])
 |crash hk he=>
  have O:0≤a.n:=by
   unfold crashE at he;split at he
   ·rename_i Z;simp only[Bool.and_eq_true,decide_eq_true_eq]at Z;exact Z.2
   ·cases he
  obtain⟨l,N,P,U,A,C,c,R,left⟩:=h.crash O;exact⟨_,.off l N P U ⟨rfl,rfl,rfl,rfl,rfl,rfl,h.last0,C,c,R⟩ rfl ⟨rfl,rfl⟩ rfl A,.crash hk O _ rfl left⟩
 |back hk hd hs hE hc2=>
  refine B (.back hk hd hs hE hc2) (by omega) (by omega) ?_
  cases h with
  |idle p hs2 hz hD A hq2=>rw[p.up]at hd;cases hd
  |commit P U k p hw hk2 hs2 hD A he2 hse hrh hru hq2 hN=>rw[p.up]at hd;cases hd
  |check k p hw hz hk2 hs2 hD A hq2=>rw[p.up]at hd;cases hd
  |off l N P U p hs2 hf hD A=>
   rw[←hD]at A;have I:0<(zbr (newestL (fndL j.disk)) (fndP j.disk) (fndN j.disk)).length:=by rw[(zem hc2).1];simp[putR]
   refine .back U 0 ?_ rfl I rfl hD ?_
   ·show Dn _ (fndN j.disk);rw[A.tN];exact⟨p.off,p.now,p.sealed,p.done,p.ru,p.rh,p.last0,p.lo,p.hi,p.seq⟩
   ·show Tells D (fndL j.disk) (fndN j.disk) (fndP j.disk) U;rw[A.tL,A.tN,A.tP,←hD];exact A
  |back U k p hw hk2 hs2 hD A=>
   rw[hs]at hs2;have:=congrArg List.length hs2;rw[List.length_drop]at this;simp at this;omega
end
theorem JAt.putActs{w:World}{B:Nat}{X:List Nat}{j:Jn}(h:JAt w B X j)(x:Int):JAt (w.setCell ⟨B,0,none⟩ (.int .i64 x)) B X {j with acts:=x}:=by
 obtain⟨C,s,r,q,R,n,M,a,Q,ne,Y,p,c,b,sd,O,L,J,k,z,i,u,d,U,N⟩:=h;have e:Ext (zau w X) (zau (w.setCell ⟨B,0,none⟩ (.int .i64 x)) X):=Ext.butL ((ButL.refl X _ w).set (.inl C) 0 (.int .i64 x));obtain⟨K,F,D,l,I,m,S,Z,y,A⟩:=N;have E:=heap_setCell_same w B 0 _ _ (.int .i64 x) U;exact⟨C,s,r,q,R,n,M,a,Q,ne,Y,p,c,b,sd,O,L,J,k,z,i,u,d,E.trans rfl,K.ext e,F.ext e,D.ext e,l.ext e,I.ext e,m.ext e,S,Z,y,A⟩
theorem JAt.putDisk{w:World}{B:Nat}{X:List Nat}{j:Jn}(h:JAt w B X j){d:Dk}{ua:Option Addr}{uc:Nat}{ub:Option Addr}{ud:Nat}(hD:IsDk (zau w X) (.agg #[.slice ua d.safe.length uc,.slice ub d.wr.length ud]) d):JAt ((w.setCell ⟨B,1,none⟩ (.slice ua d.safe.length uc)).setCell ⟨B,2,none⟩ (.slice ub d.wr.length ud)) B X {j with disk:=d}:=by
 obtain⟨A,da,dc,db,dd,q,J,O,M,ne,c,R,Q,i,Y,L,I,F,m,U,l,s,k,N,b⟩:=h;have e:Ext (zau w X) (zau ((w.setCell ⟨B,1,none⟩ (.slice ua d.safe.length uc)).setCell ⟨B,2,none⟩ (.slice ub d.wr.length ud)) X):=Ext.butL (((ButL.refl X _ w).set (.inl A) 1 (.slice ua d.safe.length uc)).set (.inl A) 2 (.slice ub d.wr.length ud));obtain⟨r1,a,Z,n,E,p,K,u,r,C⟩:=b;have D:=heap_setCell_same w B 1 _ _ (.slice ua d.safe.length uc) N;have S:=heap_setCell_same (w.setCell ⟨B,1,none⟩ (.slice ua d.safe.length uc)) B 2 _ _ (.slice ub d.wr.length ud) D;exact⟨A,ua,uc,ub,ud,q,J,O,M,ne,c,R,Q,i,Y,L,I,F,m,U,l,s,k,S.trans rfl,hD.ext e,a.ext e,Z.ext e,n.ext e,E.ext e,p.ext e,K,u,r,C⟩
theorem JAt.putRing{w:World}{B:Nat}{X:List Nat}{j:Jn}(h:JAt w B X j)(x y:Int):JAt ((w.setCell ⟨B,3,none⟩ (.int .i64 x)).setCell ⟨B,4,none⟩ (.int .i64 y)) B X {j with rh:=x,ru:=y}:=by
 obtain⟨A,da,z,U,i,s,K,Q,N,ne,k,S,R,l,a,M,J,F,p,Z,n,ta,m,O,d⟩:=h;have e:Ext (zau w X) (zau ((w.setCell ⟨B,3,none⟩ (.int .i64 x)).setCell ⟨B,4,none⟩ (.int .i64 y)) X):=Ext.butL (((ButL.refl X _ w).set (.inl A) 3 (.int .i64 x)).set (.inl A) 4 (.int .i64 y));obtain⟨I,c,b,q,E,r,L,r8,u,C⟩:=d;have D:=heap_setCell_same w B 3 _ _ (.int .i64 x) O;have Y:=heap_setCell_same (w.setCell ⟨B,3,none⟩ (.int .i64 x)) B 4 _ _ (.int .i64 y) D;exact⟨A,da,z,U,i,s,K,Q,N,ne,k,S,R,l,a,M,J,F,p,Z,n,ta,m,Y.trans rfl,I.ext e,c.ext e,b.ext e,q.ext e,E.ext e,r.ext e,L,r8,u,C⟩
theorem JAt.putUsed{w:World}{B:Nat}{X:List Nat}{j:Jn}(h:JAt w B X j)(y:Int):JAt (w.setCell ⟨B,4,none⟩ (.int .i64 y)) B X {j with ru:=y}:=by
 obtain⟨C,s,r,q,R,n,M,a,Q,ne,Y,p,c,b,sd,O,L,J,k,z,i,u,d,U,N⟩:=h;have e:Ext (zau w X) (zau (w.setCell ⟨B,4,none⟩ (.int .i64 y)) X):=Ext.butL ((ButL.refl X _ w).set (.inl C) 4 (.int .i64 y));obtain⟨K,F,D,l,I,m,S,Z,x,A⟩:=N;have E:=heap_setCell_same w B 4 _ _ (.int .i64 y) U;exact⟨C,s,r,q,R,n,M,a,Q,ne,Y,p,c,b,sd,O,L,J,k,z,i,u,d,E.trans rfl,K.ext e,F.ext e,D.ext e,l.ext e,I.ext e,m.ext e,S,Z,x,A⟩
theorem JAt.putLast{w:World}{B:Nat}{X:List Nat}{j:Jn}(h:JAt w B X j)(x:Int):JAt (w.setCell ⟨B,5,none⟩ (.int .i64 x)) B X {j with last:=x}:=by
 obtain⟨C,s,r,q,R,n,M,a,Q,ne,Y,p,c,b,sd,O,L,J,k,z,i,u,d,U,N⟩:=h;have e:Ext (zau w X) (zau (w.setCell ⟨B,5,none⟩ (.int .i64 x)) X):=Ext.butL ((ButL.refl X _ w).set (.inl C) 5 (.int .i64 x));obtain⟨K,F,D,l,I,m,S,Z,y,A⟩:=N;have E:=heap_setCell_same w B 5 _ _ (.int .i64 x) U;exact⟨C,s,r,q,R,n,M,a,Q,ne,Y,p,c,b,sd,O,L,J,k,z,i,u,d,E.trans rfl,K.ext e,F.ext e,D.ext e,l.ext e,I.ext e,m.ext e,S,Z,y,A⟩
theorem z27{X:List Nat}{B:Nat}(hB:B∈X)(w:World)(v0 v1 v2 v3 v4 v5 v6 v7 v8 v9:Value):Ext (zau w X) (zau ((((((((((w.setCell ⟨B,31,none⟩ (v0)).setCell ⟨B,32,none⟩ (v1)).setCell ⟨B,33,none⟩ (v2)).setCell ⟨B,34,none⟩ (v3)).setCell ⟨B,35,none⟩ (v4)).setCell ⟨B,36,none⟩ (v5)).setCell ⟨B,37,none⟩ (v6)).setCell ⟨B,38,none⟩ (v7)).setCell ⟨B,39,none⟩ (v8)).setCell ⟨B,40,none⟩ (v9)) X):=
 Ext.butL (((((((((((ButL.refl X _ w).set (.inl hB) 31 v0).set (.inl hB) 32 v1).set (.inl hB) 33 v2).set (.inl hB) 34 v3).set (.inl hB) 35 v4).set (.inl hB) 36 v5).set (.inl hB) 37 v6).set (.inl hB) 38 v7).set (.inl hB) 39 v8).set (.inl hB) 40 v9)
theorem zz9{w:World}{B:Nat}{cs:Array Value}{T:TypeId}(h:w.heap[B]?=some (.cells cs T (0,0)))(v0 v1 v2 v3 v4 v5 v6 v7 v8 v9:Value):((((((((((w.setCell ⟨B,31,none⟩ (v0)).setCell ⟨B,32,none⟩ (v1)).setCell ⟨B,33,none⟩ (v2)).setCell ⟨B,34,none⟩ (v3)).setCell ⟨B,35,none⟩ (v4)).setCell ⟨B,36,none⟩ (v5)).setCell ⟨B,37,none⟩ (v6)).setCell ⟨B,38,none⟩ (v7)).setCell ⟨B,39,none⟩ (v8)).setCell ⟨B,40,none⟩ (v9)).heap[B]?=some (.cells ((((((((((cs.setIfInBounds 31 v0).setIfInBounds 32 v1).setIfInBounds 33 v2).setIfInBounds 34 v3).setIfInBounds 35 v4).setIfInBounds 36 v5).setIfInBounds 37 v6).setIfInBounds 38 v7).setIfInBounds 39 v8).setIfInBounds 40 v9) T (0,0)):=by
 have A:=heap_setCell_same w B 31 _ _ v0 h;have M:=heap_setCell_same (w.setCell ⟨B,31,none⟩ v0) B 32 _ _ v1 A;have C:=heap_setCell_same ((w.setCell ⟨B,31,none⟩ v0).setCell ⟨B,32,none⟩ v1) B 33 _ _ v2 M;have K:=heap_setCell_same (((w.setCell ⟨B,31,none⟩ v0).setCell ⟨B,32,none⟩ v1).setCell ⟨B,33,none⟩ v2) B 34 _ _ v3 C;have L:=heap_setCell_same ((((w.setCell ⟨B,31,none⟩ v0).setCell ⟨B,32,none⟩ v1).setCell ⟨B,33,none⟩ v2).setCell ⟨B,34,none⟩ v3) B 35 _ _ v4 K;have D:=heap_setCell_same (((((w.setCell ⟨B,31,none⟩ v0).setCell ⟨B,32,none⟩ v1).setCell ⟨B,33,none⟩ v2).setCell ⟨B,34,none⟩ v3).setCell ⟨B,35,none⟩ v4) B 36 _ _ v5 L;have E:=heap_setCell_same ((((((w.setCell ⟨B,31,none⟩ v0).setCell ⟨B,32,none⟩ v1).setCell ⟨B,33,none⟩ v2).setCell ⟨B,34,none⟩ v3).setCell ⟨B,35,none⟩ v4).setCell ⟨B,36,none⟩ v5) B 37 _ _ v6 D;have J:=heap_setCell_same (((((((w.setCell ⟨B,31,none⟩ v0).setCell ⟨B,32,none⟩ v1).setCell ⟨B,33,none⟩ v2).setCell ⟨B,34,none⟩ v3).setCell ⟨B,35,none⟩ v4).setCell ⟨B,36,none⟩ v5).setCell ⟨B,37,none⟩ v6) B 38 _ _ v7 E;have F:=heap_setCell_same ((((((((w.setCell ⟨B,31,none⟩ v0).setCell ⟨B,32,none⟩ v1).setCell ⟨B,33,none⟩ v2).setCell ⟨B,34,none⟩ v3).setCell ⟨B,35,none⟩ v4).setCell ⟨B,36,none⟩ v5).setCell ⟨B,37,none⟩ v6).setCell ⟨B,38,none⟩ v7) B 39 _ _ v8 J;have I:=heap_setCell_same (((((((((w.setCell ⟨B,31,none⟩ v0).setCell ⟨B,32,none⟩ v1).setCell ⟨B,33,none⟩ v2).setCell ⟨B,34,none⟩ v3).setCell ⟨B,35,none⟩ v4).setCell ⟨B,36,none⟩ v5).setCell ⟨B,37,none⟩ v6).setCell ⟨B,38,none⟩ v7).setCell ⟨B,39,none⟩ v8) B 40 _ _ v9 F;exact I
theorem z29{X:List Nat}{B:Nat}(hB:B∈X)(w:World)(v0 v1 v2 v3 v4 v5 v6 v7 v8 v9:Value):Ext (zau w X) (zau ((((((((((w.setCell ⟨B,41,none⟩ (v0)).setCell ⟨B,42,none⟩ (v1)).setCell ⟨B,43,none⟩ (v2)).setCell ⟨B,44,none⟩ (v3)).setCell ⟨B,45,none⟩ (v4)).setCell ⟨B,46,none⟩ (v5)).setCell ⟨B,47,none⟩ (v6)).setCell ⟨B,48,none⟩ (v7)).setCell ⟨B,49,none⟩ (v8)).setCell ⟨B,50,none⟩ (v9)) X):=
 Ext.butL (((((((((((ButL.refl X _ w).set (.inl hB) 41 v0).set (.inl hB) 42 v1).set (.inl hB) 43 v2).set (.inl hB) 44 v3).set (.inl hB) 45 v4).set (.inl hB) 46 v5).set (.inl hB) 47 v6).set (.inl hB) 48 v7).set (.inl hB) 49 v8).set (.inl hB) 50 v9)
theorem z0a{w:World}{B:Nat}{cs:Array Value}{T:TypeId}(h:w.heap[B]?=some (.cells cs T (0,0)))(v0 v1 v2 v3 v4 v5 v6 v7 v8 v9:Value):((((((((((w.setCell ⟨B,41,none⟩ (v0)).setCell ⟨B,42,none⟩ (v1)).setCell ⟨B,43,none⟩ (v2)).setCell ⟨B,44,none⟩ (v3)).setCell ⟨B,45,none⟩ (v4)).setCell ⟨B,46,none⟩ (v5)).setCell ⟨B,47,none⟩ (v6)).setCell ⟨B,48,none⟩ (v7)).setCell ⟨B,49,none⟩ (v8)).setCell ⟨B,50,none⟩ (v9)).heap[B]?=some (.cells ((((((((((cs.setIfInBounds 41 v0).setIfInBounds 42 v1).setIfInBounds 43 v2).setIfInBounds 44 v3).setIfInBounds 45 v4).setIfInBounds 46 v5).setIfInBounds 47 v6).setIfInBounds 48 v7).setIfInBounds 49 v8).setIfInBounds 50 v9) T (0,0)):=by
 have A:=heap_setCell_same w B 41 _ _ v0 h;have M:=heap_setCell_same (w.setCell ⟨B,41,none⟩ v0) B 42 _ _ v1 A;have C:=heap_setCell_same ((w.setCell ⟨B,41,none⟩ v0).setCell ⟨B,42,none⟩ v1) B 43 _ _ v2 M;have K:=heap_setCell_same (((w.setCell ⟨B,41,none⟩ v0).setCell ⟨B,42,none⟩ v1).setCell ⟨B,43,none⟩ v2) B 44 _ _ v3 C;have L:=heap_setCell_same ((((w.setCell ⟨B,41,none⟩ v0).setCell ⟨B,42,none⟩ v1).setCell ⟨B,43,none⟩ v2).setCell ⟨B,44,none⟩ v3) B 45 _ _ v4 K;have D:=heap_setCell_same (((((w.setCell ⟨B,41,none⟩ v0).setCell ⟨B,42,none⟩ v1).setCell ⟨B,43,none⟩ v2).setCell ⟨B,44,none⟩ v3).setCell ⟨B,45,none⟩ v4) B 46 _ _ v5 L;have E:=heap_setCell_same ((((((w.setCell ⟨B,41,none⟩ v0).setCell ⟨B,42,none⟩ v1).setCell ⟨B,43,none⟩ v2).setCell ⟨B,44,none⟩ v3).setCell ⟨B,45,none⟩ v4).setCell ⟨B,46,none⟩ v5) B 47 _ _ v6 D;have J:=heap_setCell_same (((((((w.setCell ⟨B,41,none⟩ v0).setCell ⟨B,42,none⟩ v1).setCell ⟨B,43,none⟩ v2).setCell ⟨B,44,none⟩ v3).setCell ⟨B,45,none⟩ v4).setCell ⟨B,46,none⟩ v5).setCell ⟨B,47,none⟩ v6) B 48 _ _ v7 E;have F:=heap_setCell_same ((((((((w.setCell ⟨B,41,none⟩ v0).setCell ⟨B,42,none⟩ v1).setCell ⟨B,43,none⟩ v2).setCell ⟨B,44,none⟩ v3).setCell ⟨B,45,none⟩ v4).setCell ⟨B,46,none⟩ v5).setCell ⟨B,47,none⟩ v6).setCell ⟨B,48,none⟩ v7) B 49 _ _ v8 J;have I:=heap_setCell_same (((((((((w.setCell ⟨B,41,none⟩ v0).setCell ⟨B,42,none⟩ v1).setCell ⟨B,43,none⟩ v2).setCell ⟨B,44,none⟩ v3).setCell ⟨B,45,none⟩ v4).setCell ⟨B,46,none⟩ v5).setCell ⟨B,47,none⟩ v6).setCell ⟨B,48,none⟩ v7).setCell ⟨B,49,none⟩ v8) B 50 _ _ v9 F;exact I
theorem zra(j:Jn)(da:Option Addr)(dc:Nat)(db:Option Addr)(dd:Nat)(na:Option Addr)(nc:Nat)(nb:Option Addr)(nd:Nat)(ne:Option Addr)(nf:Nat)(sa:Option Addr)(sc:Nat)(sb:Option Addr)(sd:Nat)(se:Option Addr)(sf:Nat)(ca:Option Addr)(cc:Nat)(fa:Option Addr)(fc:Nat)(ta:Option Addr)(tc:Nat){t:Tx}{ua:Option Addr}{uc:Nat}{ub:Option Addr}{ud:Nat}{ue:Option Addr}{uf:Nat}:(((((((((((zbs j da dc db dd na nc nb nd ne nf sa sc sb sd se sf ca cc fa fc ta tc).setIfInBounds 31 (.int .i64 t.seq)).setIfInBounds 32 (.slice ua t.info.length uc)).setIfInBounds 33 (.slice ub t.data.length ud)).setIfInBounds 34 (.slice ue t.rev.length uf)).setIfInBounds 35 (.bool t.h0.on)).setIfInBounds 36 (.int .i64 t.h0.left)).setIfInBounds 37 (.bool t.h1.on)).setIfInBounds 38 (.int .i64 t.h1.left)).setIfInBounds 39 (.bool t.h2.on)).setIfInBounds 40 (.int .i64 t.h2.left))=zbs {j with now:=t} da dc db dd ua uc ub ud ue uf sa sc sb sd se sf ca cc fa fc ta tc:=by
 kernel_rfl
theorem JAt.putNow{w:World}{B:Nat}{X:List Nat}{j:Jn}(h:JAt w B X j){t:Tx}{ua:Option Addr}{uc:Nat}{ub:Option Addr}{ud:Nat}{ue:Option Addr}{uf:Nat}(hT:IsTx (zau w X) (.agg #[.int .i64 t.seq,.slice ua t.info.length uc,.slice ub t.data.length ud,.slice ue t.rev.length uf,.bool t.h0.on,.int .i64 t.h0.left,.bool t.h1.on,.int .i64 t.h1.left,.bool t.h2.on,.int .i64 t.h2.left]) t)(hR:RoomTx (.agg #[.int .i64 t.seq,.slice ua t.info.length uc,.slice ub t.data.length ud,.slice ue t.rev.length uf,.bool t.h0.on,.int .i64 t.h0.left,.bool t.h1.on,.int .i64 t.h1.left,.bool t.h2.on,.int .i64 t.h2.left])):JAt ((((((((((w.setCell ⟨B,31,none⟩ (.int .i64 t.seq)).setCell ⟨B,32,none⟩ (.slice ua t.info.length uc)).setCell ⟨B,33,none⟩ (.slice ub t.data.length ud)).setCell ⟨B,34,none⟩ (.slice ue t.rev.length uf)).setCell ⟨B,35,none⟩ (.bool t.h0.on)).setCell ⟨B,36,none⟩ (.int .i64 t.h0.left)).setCell ⟨B,37,none⟩ (.bool t.h1.on)).setCell ⟨B,38,none⟩ (.int .i64 t.h1.left)).setCell ⟨B,39,none⟩ (.bool t.h2.on)).setCell ⟨B,40,none⟩ (.int .i64 t.h2.left)) B X {j with now:=t}:=by
 obtain⟨C,c,b,a,L,na,nc,nb,nd,ne,nf,Z,O,N,m,K,J,F,S,l,R,d,Q,h1,h2⟩:=h;have e:=z27 C w (.int .i64 t.seq) (.slice ua t.info.length uc) (.slice ub t.data.length ud) (.slice ue t.rev.length uf) (.bool t.h0.on) (.int .i64 t.h0.left) (.bool t.h1.on) (.int .i64 t.h1.left) (.bool t.h2.on) (.int .i64 t.h2.left);have k:=zz9 h1 (.int .i64 t.seq) (.slice ua t.info.length uc) (.slice ub t.data.length ud) (.slice ue t.rev.length uf) (.bool t.h0.on) (.int .i64 t.h0.left) (.bool t.h1.on) (.int .i64 t.h1.left) (.bool t.h2.on) (.int .i64 t.h2.left);rw[zra]at k;obtain⟨I,r2,D,U,E,Y,r7,M,i,A⟩:=h2;exact⟨C,c,b,a,L,ua,uc,ub,ud,ue,uf,Z,O,N,m,K,J,F,S,l,R,d,Q,k,I.ext e,hT.ext e,D.ext e,U.ext e,E.ext e,Y.ext e,hR,M,i,A⟩
theorem zme(j:Jn)(da:Option Addr)(dc:Nat)(db:Option Addr)(dd:Nat)(na:Option Addr)(nc:Nat)(nb:Option Addr)(nd:Nat)(ne:Option Addr)(nf:Nat)(sa:Option Addr)(sc:Nat)(sb:Option Addr)(sd:Nat)(se:Option Addr)(sf:Nat)(ca:Option Addr)(cc:Nat)(fa:Option Addr)(fc:Nat)(ta:Option Addr)(tc:Nat){t:Tx}{ua:Option Addr}{uc:Nat}{ub:Option Addr}{ud:Nat}{ue:Option Addr}{uf:Nat}:(((((((((((zbs j da dc db dd na nc nb nd ne nf sa sc sb sd se sf ca cc fa fc ta tc).setIfInBounds 41 (.int .i64 t.seq)).setIfInBounds 42 (.slice ua t.info.length uc)).setIfInBounds 43 (.slice ub t.data.length ud)).setIfInBounds 44 (.slice ue t.rev.length uf)).setIfInBounds 45 (.bool t.h0.on)).setIfInBounds 46 (.int .i64 t.h0.left)).setIfInBounds 47 (.bool t.h1.on)).setIfInBounds 48 (.int .i64 t.h1.left)).setIfInBounds 49 (.bool t.h2.on)).setIfInBounds 50 (.int .i64 t.h2.left))=zbs {j with sealed:=t} da dc db dd na nc nb nd ne nf ua uc ub ud ue uf ca cc fa fc ta tc:=by
 kernel_rfl
theorem JAt.putSealed{w:World}{B:Nat}{X:List Nat}{j:Jn}(h:JAt w B X j){t:Tx}{ua:Option Addr}{uc:Nat}{ub:Option Addr}{ud:Nat}{ue:Option Addr}{uf:Nat}(hT:IsTx (zau w X) (.agg #[.int .i64 t.seq,.slice ua t.info.length uc,.slice ub t.data.length ud,.slice ue t.rev.length uf,.bool t.h0.on,.int .i64 t.h0.left,.bool t.h1.on,.int .i64 t.h1.left,.bool t.h2.on,.int .i64 t.h2.left]) t):JAt ((((((((((w.setCell ⟨B,41,none⟩ (.int .i64 t.seq)).setCell ⟨B,42,none⟩ (.slice ua t.info.length uc)).setCell ⟨B,43,none⟩ (.slice ub t.data.length ud)).setCell ⟨B,44,none⟩ (.slice ue t.rev.length uf)).setCell ⟨B,45,none⟩ (.bool t.h0.on)).setCell ⟨B,46,none⟩ (.int .i64 t.h0.left)).setCell ⟨B,47,none⟩ (.bool t.h1.on)).setCell ⟨B,48,none⟩ (.int .i64 t.h1.left)).setCell ⟨B,49,none⟩ (.bool t.h2.on)).setCell ⟨B,50,none⟩ (.int .i64 t.h2.left)) B X {j with sealed:=t}:=by
 obtain⟨C,d,c,b,L,a,J,Q,K,ne,N,sa,sc,sb,sd,se,sf,F,U,m,S,i,R,h1,h2⟩:=h;have e:=z29 C w (.int .i64 t.seq) (.slice ua t.info.length uc) (.slice ub t.data.length ud) (.slice ue t.rev.length uf) (.bool t.h0.on) (.int .i64 t.h0.left) (.bool t.h1.on) (.int .i64 t.h1.left) (.bool t.h2.on) (.int .i64 t.h2.left);have k:=z0a h1 (.int .i64 t.seq) (.slice ua t.info.length uc) (.slice ub t.data.length ud) (.slice ue t.rev.length uf) (.bool t.h0.on) (.int .i64 t.h0.left) (.bool t.h1.on) (.int .i64 t.h1.left) (.bool t.h2.on) (.int .i64 t.h2.left);rw[zme]at k;obtain⟨I,D,r3,Y,E,Z,M,O,l,A⟩:=h2;exact⟨C,d,c,b,L,a,J,Q,K,ne,N,ua,uc,ub,ud,ue,uf,F,U,m,S,i,R,k,I.ext e,D.ext e,hT.ext e,Y.ext e,E.ext e,Z.ext e,M,O,l,A⟩
theorem JAt.putDone{w:World}{B:Nat}{X:List Nat}{j:Jn}(h:JAt w B X j){l:List Tx}{ua:Option Addr}{uc:Nat}(hS:SegTx (zau w X) ua l):JAt (w.setCell ⟨B,51,none⟩ (.slice ua l.length uc)) B X {j with done:=l}:=by
 obtain⟨C,q,p,n,Q,k,L,Z,O,ne,U,m,b,a,u,N,K,ca,cc,s,d,r,c,S,M⟩:=h;have e:Ext (zau w X) (zau (w.setCell ⟨B,51,none⟩ (.slice ua l.length uc)) X):=Ext.butL ((ButL.refl X _ w).set (.inl C) 51 (.slice ua l.length uc));obtain⟨J,F,D,r4,I,i,R,Y,r9,A⟩:=M;have E:=heap_setCell_same w B 51 _ _ (.slice ua l.length uc) S;exact⟨C,q,p,n,Q,k,L,Z,O,ne,U,m,b,a,u,N,K,ua,uc,s,d,r,c,E.trans rfl,J.ext e,F.ext e,D.ext e,hS.ext e,I.ext e,i.ext e,R,Y,Nat.zero_le _,A⟩
theorem JAt.putFound{w:World}{B:Nat}{X:List Nat}{j:Jn}(h:JAt w B X j){l:List Tx}{ua:Option Addr}{uc:Nat}(x y:Int)(hS:SegTx (zau w X) ua l):JAt (((w.setCell ⟨B,52,none⟩ (.slice ua l.length uc)).setCell ⟨B,53,none⟩ (.int .i64 x)).setCell ⟨B,54,none⟩ (.int .i64 y)) B X {j with fL:=l,fN:=x,fP:=y}:=by
 obtain⟨A,u,s,R,c,q,I,N,L,ne,d,Q,O,i,U,K,F,D,m,fa,fc,z,k,M,b⟩:=h;have e:Ext (zau w X) (zau (((w.setCell ⟨B,52,none⟩ (.slice ua l.length uc)).setCell ⟨B,53,none⟩ (.int .i64 x)).setCell ⟨B,54,none⟩ (.int .i64 y)) X):=Ext.butL ((((ButL.refl X _ w).set (.inl A) 52 (.slice ua l.length uc)).set (.inl A) 53 (.int .i64 x)).set (.inl A) 54 (.int .i64 y));obtain⟨E,Z,Y,n,r5,p,J,r8,r,A0⟩:=b;have C:=heap_setCell_same w B 52 _ _ (.slice ua l.length uc) M;have S:=heap_setCell_same (w.setCell ⟨B,52,none⟩ (.slice ua l.length uc)) B 53 _ _ (.int .i64 x) C;have a:=heap_setCell_same ((w.setCell ⟨B,52,none⟩ (.slice ua l.length uc)).setCell ⟨B,53,none⟩ (.int .i64 x)) B 54 _ _ (.int .i64 y) S;exact⟨A,u,s,R,c,q,I,N,L,ne,d,Q,O,i,U,K,F,D,m,ua,uc,z,k,a.trans rfl,E.ext e,Z.ext e,Y.ext e,n.ext e,hS.ext e,p.ext e,J,r8,r,Nat.zero_le _⟩
theorem JAt.putWork{w:World}{B:Nat}{X:List Nat}{j:Jn}(h:JAt w B X j)(x:Int):JAt (w.setCell ⟨B,55,none⟩ (.int .i64 x)) B X {j with work:=x}:=by
 obtain⟨C,s,r,q,R,n,M,a,Q,ne,Y,p,c,b,sd,O,L,J,k,z,i,u,d,U,N⟩:=h;have e:Ext (zau w X) (zau (w.setCell ⟨B,55,none⟩ (.int .i64 x)) X):=Ext.butL ((ButL.refl X _ w).set (.inl C) 55 (.int .i64 x));obtain⟨K,F,D,l,I,m,S,Z,y,A⟩:=N;have E:=heap_setCell_same w B 55 _ _ (.int .i64 x) U;exact⟨C,s,r,q,R,n,M,a,Q,ne,Y,p,c,b,sd,O,L,J,k,z,i,u,d,E.trans rfl,K.ext e,F.ext e,D.ext e,l.ext e,I.ext e,m.ext e,S,Z,y,A⟩
theorem JAt.putSteps{w:World}{B:Nat}{X:List Nat}{j:Jn}(h:JAt w B X j){l:List St}{ua:Option Addr}{uc:Nat}(hS:SegSt (zau w X) ua l)(hc:l.length≤uc):JAt (w.setCell ⟨B,56,none⟩ (.slice ua l.length uc)) B X {j with steps:=l}:=by
 obtain⟨C,q,p,n,R,k,M,Z,Q,ne,Y,m,b,a,u,O,L,J,d,s,c,ta,tc,U,N⟩:=h;have e:Ext (zau w X) (zau (w.setCell ⟨B,56,none⟩ (.slice ua l.length uc)) X):=Ext.butL ((ButL.refl X _ w).set (.inl C) 56 (.slice ua l.length uc));obtain⟨K,F,D,i,I,r6,S,r8,r,A⟩:=N;have E:=heap_setCell_same w B 56 _ _ (.slice ua l.length uc) U;exact⟨C,q,p,n,R,k,M,Z,Q,ne,Y,m,b,a,u,O,L,J,d,s,c,ua,uc,E.trans rfl,K.ext e,F.ext e,D.ext e,i.ext e,I.ext e,hS.ext e,S,hc,r,A⟩
theorem JAt.putRole{w:World}{B:Nat}{X:List Nat}{j:Jn}(h:JAt w B X j)(b:Nat)(hb:b<12)(x:Int):JAt (w.setCell ⟨B,7+b*2,none⟩ (.int .i64 x)) B X {j with role:=upd j.role b x}:=by
 obtain⟨D,y,u,s,R,q,M,a,Q,ne,Y,r,d,c,sd,O,L,J,l,fa,k,z,i,U,N⟩:=h;have e:Ext (zau w X) (zau (w.setCell ⟨B,7+b*2,none⟩ (.int .i64 x)) X):=Ext.butL ((ButL.refl X _ w).set (.inl D) _ _);obtain⟨K,F,E,m,I,p,S,Z,r9,C⟩:=N;have A:=heap_setCell_same w B (7+b*2) _ _ (.int .i64 x) U;refine⟨D,y,u,s,R,q,M,a,Q,ne,Y,r,d,c,sd,O,L,J,l,fa,k,z,i,?_,K.ext e,F.ext e,E.ext e,m.ext e,I.ext e,p.ext e,S,Z,r9,C⟩
 match b,hb,A with
 |0,_,A=>exact A.trans rfl
 |1,_,A=>exact A.trans rfl
 |2,_,A=>exact A.trans rfl
 |3,_,A=>exact A.trans rfl
 |4,_,A=>exact A.trans rfl
 |5,_,A=>exact A.trans rfl
 |6,_,A=>exact A.trans rfl
 |7,_,A=>exact A.trans rfl
 |8,_,A=>exact A.trans rfl
 |9,_,A=>exact A.trans rfl
 |10,_,A=>exact A.trans rfl
 |11,_,A=>exact A.trans rfl
 |n+12,hb,_=>omega
theorem JAt.putFreed{w:World}{B:Nat}{X:List Nat}{j:Jn}(h:JAt w B X j)(b:Nat)(hb:b<12)(x:Int):JAt (w.setCell ⟨B,8+b*2,none⟩ (.int .i64 x)) B X {j with freed:=upd j.freed b x}:=by
 obtain⟨D,y,u,s,R,q,M,a,Q,ne,Y,r,d,c,sd,O,L,J,l,fa,k,z,i,U,N⟩:=h;have e:Ext (zau w X) (zau (w.setCell ⟨B,8+b*2,none⟩ (.int .i64 x)) X):=Ext.butL ((ButL.refl X _ w).set (.inl D) _ _);obtain⟨K,F,E,m,I,p,S,Z,r9,C⟩:=N;have A:=heap_setCell_same w B (8+b*2) _ _ (.int .i64 x) U;refine⟨D,y,u,s,R,q,M,a,Q,ne,Y,r,d,c,sd,O,L,J,l,fa,k,z,i,?_,K.ext e,F.ext e,E.ext e,m.ext e,I.ext e,p.ext e,S,Z,r9,C⟩
 match b,hb,A with
 |0,_,A=>exact A.trans rfl
 |1,_,A=>exact A.trans rfl
 |2,_,A=>exact A.trans rfl
 |3,_,A=>exact A.trans rfl
 |4,_,A=>exact A.trans rfl
 |5,_,A=>exact A.trans rfl
 |6,_,A=>exact A.trans rfl
 |7,_,A=>exact A.trans rfl
 |8,_,A=>exact A.trans rfl
 |9,_,A=>exact A.trans rfl
 |10,_,A=>exact A.trans rfl
 |11,_,A=>exact A.trans rfl
 |n+12,hb,_=>omega
open Go.Proofs.Tryz
def zdj (w:World)(B:Nat)(X:List Nat)(p:Jn×Rp)(e:Ending)(w':World):Prop:=e=.returned (vRp p.2)∧JAt w' B X p.1∧ButL [B] w.heap.size w w'
theorem zbn{w:World}{B:Nat}{v0 v1 v2:Value}{t:TypeId}(h:w.heap[B]?=some (.cells #[v0,v1,v2] t (0,0))):
  (w.cell? ⟨B,0,none⟩=some v0∧w.cell? ⟨B,1,none⟩=some v1∧w.cell? ⟨B,2,none⟩=some v2)∧(w.frozen? ⟨B,0,none⟩=false∧w.frozen? ⟨B,1,none⟩=false∧w.frozen? ⟨B,2,none⟩=false):=by
 refine⟨⟨?_,?_,?_⟩,frozen_of_row w _ _ _ _ h,frozen_of_row w _ _ _ _ h,frozen_of_row w _ _ _ _ h⟩<;>(rw[cell_of_row w _ _ _ _ _ h];rfl)
theorem zw7{w:World}{r:Nat}{B:Nat}{X:List Nat}{j:Jn}(hJ:JAt w B (r::X) j)(hr:r≠B)(hB:B∈X)(v0 v1 v2:Value):
  JAt (((w.setCell ⟨r,0,none⟩ v0).setCell ⟨r,1,none⟩ v1).setCell ⟨r,2,none⟩ v2) B X j:=
 (((hJ.set (by simp) hr 0 v0).set (by simp) hr 1 v1).set (by simp) hr 2 v2).less hB
theorem zbd{P0:Program}{fn:Func}{a:Act}{w w2:World}{r B:Nat}{X:List Nat}{P:Jn×Rp}{j:Jn}{y:Rp}{t:TypeId}{z0 z1 z2 v0 v1 v2:Value}(hE:P=(j,y))(KR:w2.heap[r]?=some (.cells #[z0,z1,z2] t (0,0)))(HJ:JAt w2 B (r::X) j)(HB:ButL [B] w.heap.size w w2)(hrB:r≠B)(hBX:B∈X)
  (hres:∀W:World,W.cell? ⟨r,0,none⟩=some v0→W.cell? ⟨r,1,none⟩=some v1→W.cell? ⟨r,2,none⟩=some v2→(results fn a.tmps).run P0 W=.ok (.agg #[v0,v1,v2]) W) (hd:a.defers=[]:=by rfl) (hv:vRp y=.agg #[v0,v1,v2]:=by rfl) (hr:w.heap.size≤r:=by omega):
  bodyPost P0 fn (zdj w B X P) .ret a (((w2.setCell ⟨r,0,none⟩ v0).setCell ⟨r,1,none⟩ v1).setCell ⟨r,2,none⟩ v2):=by
 obtain⟨⟨u0,u1,u2⟩,_⟩:=zbn (zge KR v0 v1 v2);refine bodyPost_ret (hres _ u0 u1 u2) hd ⟨by rw[hE,←hv],?_,((HB.set (.inr hr) 0 _).set (.inr hr) 1 _).set (.inr hr) 2 _⟩;rw[hE];exact zw7 HJ hrB hBX _ _ _
theorem z3a(B:Nat)(w:World)(v0 v1 v2 v3 v4 v5 v6 v7 v8 v9:Value):ButL [B] w.heap.size w ((((((((((w.setCell ⟨B,31,none⟩ (v0)).setCell ⟨B,32,none⟩ (v1)).setCell ⟨B,33,none⟩ (v2)).setCell ⟨B,34,none⟩ (v3)).setCell ⟨B,35,none⟩ (v4)).setCell ⟨B,36,none⟩ (v5)).setCell ⟨B,37,none⟩ (v6)).setCell ⟨B,38,none⟩ (v7)).setCell ⟨B,39,none⟩ (v8)).setCell ⟨B,40,none⟩ (v9)):=
 (((((((((((ButL.refl [B] _ w).set (.inl (by simp)) 31 v0).set (.inl (by simp)) 32 v1).set (.inl (by simp)) 33 v2).set (.inl (by simp)) 34 v3).set (.inl (by simp)) 35 v4).set (.inl (by simp)) 36 v5).set (.inl (by simp)) 37 v6).set (.inl (by simp)) 38 v7).set (.inl (by simp)) 39 v8).set (.inl (by simp)) 40 v9)
theorem zjl(B:Nat)(X:List Nat)(j:Jn)(w:World)(h:JAt w B X j)(t:Tx)(ua:Option Addr)(uc:Nat)(ub:Option Addr)(ud:Nat)(ue:Option Addr)(uf:Nat)(hT:IsTx (zau w X) (.agg #[.int .i64 t.seq,.slice ua t.info.length uc,.slice ub t.data.length ud,.slice ue t.rev.length uf,.bool t.h0.on,.int .i64 t.h0.left,.bool t.h1.on,.int .i64 t.h1.left,.bool t.h2.on,.int .i64 t.h2.left]) t)(hR:RoomTx (.agg #[.int .i64 t.seq,.slice ua t.info.length uc,.slice ub t.data.length ud,.slice ue t.rev.length uf,.bool t.h0.on,.int .i64 t.h0.left,.bool t.h1.on,.int .i64 t.h1.left,.bool t.h2.on,.int .i64 t.h2.left]))(e:Int):
  Calls prog 79 #[.pointer (some ⟨B,0,none⟩),.agg #[.int .i64 t.seq,.slice ua t.info.length uc,.slice ub t.data.length ud,.slice ue t.rev.length uf,.bool t.h0.on,.int .i64 t.h0.left,.bool t.h1.on,.int .i64 t.h1.left,.bool t.h2.on,.int .i64 t.h2.left],.int .i64 e] w (zdj w B X (zm2 j t e)):=by
 have HJ:=zab h;have A6:=h.lt;have m:=h.1;have HT:=zab hT;have HR:=zab hR;obtain⟨_,da,dc,db,dd,na,nc,nb,nd,ne,nf,sa,sc,sb,sd,se,sf,ca,cc,fa,fc,ta,tc,h1,_⟩:=h;have p:w.cell? ⟨B,31,none⟩=some (.int .i64 j.now.seq):=zak h1 31;have O:w.frozen? ⟨B,31,none⟩=false:=frozen_of_row w _ _ _ _ h1;have s:w.cell? ⟨B,32,none⟩=some (.slice na j.now.info.length nc):=zak h1 32;have Z:w.frozen? ⟨B,32,none⟩=false:=frozen_of_row w _ _ _ _ h1;have z:w.cell? ⟨B,33,none⟩=some (.slice nb j.now.data.length nd):=zak h1 33;have R:w.frozen? ⟨B,33,none⟩=false:=frozen_of_row w _ _ _ _ h1;have A0:w.cell? ⟨B,34,none⟩=some (.slice ne j.now.rev.length nf):=zak h1 34;have k:w.frozen? ⟨B,34,none⟩=false:=frozen_of_row w _ _ _ _ h1;have A1:w.cell? ⟨B,35,none⟩=some (.bool j.now.h0.on):=zak h1 35;have c:w.frozen? ⟨B,35,none⟩=false:=frozen_of_row w _ _ _ _ h1;have r:w.cell? ⟨B,36,none⟩=some (.int .i64 j.now.h0.left):=zak h1 36;have a:w.frozen? ⟨B,36,none⟩=false:=frozen_of_row w _ _ _ _ h1;have y:w.cell? ⟨B,37,none⟩=some (.bool j.now.h1.on):=zak h1 37;have l:w.frozen? ⟨B,37,none⟩=false:=frozen_of_row w _ _ _ _ h1;have x:w.cell? ⟨B,38,none⟩=some (.int .i64 j.now.h1.left):=zak h1 38;have S:w.frozen? ⟨B,38,none⟩=false:=frozen_of_row w _ _ _ _ h1;have u:w.cell? ⟨B,39,none⟩=some (.bool j.now.h2.on):=zak h1 39;have U:w.frozen? ⟨B,39,none⟩=false:=frozen_of_row w _ _ _ _ h1;have q:w.cell? ⟨B,40,none⟩=some (.int .i64 j.now.h2.left):=zak h1 40;have L:w.frozen? ⟨B,40,none⟩=false:=frozen_of_row w _ _ _ _ h1;have A3:¬B=w.heap.size:=by omega
 have A4:¬B=w.heap.size+1:=by omega
 clear h1 hT hR;by_cases he:e=0
 ·have HE:Hid (zm2 j t e=({j with now:=t},zat 0)):=by rw[Hid,zm2,if_pos he]
  subst he;go_enter func79,ntmps79;go_wp2_with fail;obtain⟨K,E⟩:∃K,K=((((((((((w.setCell ⟨B,31,none⟩ (.int .i64 t.seq)).setCell ⟨B,32,none⟩ (.slice ua t.info.length uc)).setCell ⟨B,33,none⟩ (.slice ub t.data.length ud)).setCell ⟨B,34,none⟩ (.slice ue t.rev.length uf)).setCell ⟨B,35,none⟩ (.bool t.h0.on)).setCell ⟨B,36,none⟩ (.int .i64 t.h0.left)).setCell ⟨B,37,none⟩ (.bool t.h1.on)).setCell ⟨B,38,none⟩ (.int .i64 t.h1.left)).setCell ⟨B,39,none⟩ (.bool t.h2.on)).setCell ⟨B,40,none⟩ (.int .i64 t.h2.left)):=⟨_,rfl⟩;have n:JAt K B X {j with now:=t}:=by rw[E];exact HJ.o.putNow HT.o HR.o
  have M:ButL [B] w.heap.size w K:=by rw[E];exact z3a B w _ _ _ _ _ _ _ _ _ _
  have A2:K.heap.size=w.heap.size:=by rw[E];simp[World.setCell]
  rw[←E];obtain⟨D,A⟩:∃D,D=(K.alloc (.cells #[.int .i64 t.seq,.slice ua t.info.length uc,.slice ub t.data.length ud,.slice ue t.rev.length uf,.bool t.h0.on,.int .i64 t.h0.left,.bool t.h1.on,.int .i64 t.h1.left,.bool t.h2.on,.int .i64 t.h2.left] 40)).alloc (.cells #[.int .i64 0,.int .i64 0,.string ⟨#[]⟩] 31):=⟨_,rfl⟩;have J:(K.alloc (.cells #[.int .i64 t.seq,.slice ua t.info.length uc,.slice ub t.data.length ud,.slice ue t.rev.length uf,.bool t.h0.on,.int .i64 t.h0.left,.bool t.h1.on,.int .i64 t.h1.left,.bool t.h2.on,.int .i64 t.h2.left] 40)).heap.size=w.heap.size+1:=by simp[A2]
  have b:Hid (JAt D B ((w.heap.size+1)::X) {j with now:=t}):=by rw[A];exact(n.below (zaa _ _)).more (zaa _ _) (by omega)
  have F:Hid (ButL [B] w.heap.size w D):=by rw[A];exact M.trans (Y:=[]) (ButL.of_below (zae (zaa _ _) (zaa _ _))) M.size (by simp)
  have KR:Hid (D.heap[w.heap.size+1]?=some (.cells #[.int .i64 0,.int .i64 0,.string ⟨#[]⟩] 31 (0,0))):=by rw[A,←J];exact heap_alloc_new _ _
  have i:w.heap.size+1<D.heap.size:=by rw[A];simp;omega
  have N:w.heap.size+1≠B:=by omega
  rw[←A];clear E A n M A2 J p O s Z z R A0 k A1 c r a y l x S u U q L;refine(zav 0 _).mono ?_;rintro e w2 ⟨rfl,C⟩;have I:=zab (zad C i KR.o);have d:=zab (b.o.below C);have Q:=zab (F.o.trans (Y:=[]) (ButL.of_below C) F.o.size (by simp));clear C;obtain⟨⟨y0,y1,y2⟩,yf⟩:=zbn I.o;go_wp2;exact zbd HE.o I.o d.o Q.o N m fun W u0 u1 u2=>by simp[results,results79,go_sem,u0,u1,u2]
 ·have HE:Hid (zm2 j t e=(j,zat e)):=by rw[Hid,zm2,if_neg he]
  have A5:(e==0)=false:=by simpa using he
  clear he;go_enter func79,ntmps79;go_wp2_with fail;obtain⟨D,A⟩:∃D,D=(w.alloc (.cells #[.int .i64 t.seq,.slice ua t.info.length uc,.slice ub t.data.length ud,.slice ue t.rev.length uf,.bool t.h0.on,.int .i64 t.h0.left,.bool t.h1.on,.int .i64 t.h1.left,.bool t.h2.on,.int .i64 t.h2.left] 40)).alloc (.cells #[.int .i64 0,.int .i64 0,.string ⟨#[]⟩] 31):=⟨_,rfl⟩;have J:(w.alloc (.cells #[.int .i64 t.seq,.slice ua t.info.length uc,.slice ub t.data.length ud,.slice ue t.rev.length uf,.bool t.h0.on,.int .i64 t.h0.left,.bool t.h1.on,.int .i64 t.h1.left,.bool t.h2.on,.int .i64 t.h2.left] 40)).heap.size=w.heap.size+1:=by simp
  have b:Hid (JAt D B ((w.heap.size+1)::X) j):=by rw[A];exact(HJ.o.below (zaa _ _)).more (zaa _ _) (by omega)
  have F:Hid (ButL [B] w.heap.size w D):=by rw[A];exact ButL.of_below (zae (zaa _ _) (zaa _ _))
  have KR:Hid (D.heap[w.heap.size+1]?=some (.cells #[.int .i64 0,.int .i64 0,.string ⟨#[]⟩] 31 (0,0))):=by rw[A,←J];exact heap_alloc_new _ _
  have i:w.heap.size+1<D.heap.size:=by rw[A];simp
  have N:w.heap.size+1≠B:=by omega
  rw[←A];clear A J p O s Z z R A0 k A1 c r a y l x S u U q L;refine(zav e _).mono ?_;rintro e w2 ⟨rfl,C⟩;have I:=zab (zad C i KR.o);have d:=zab (b.o.below C);have Q:=zab (F.o.trans (Y:=[]) (ButL.of_below C) F.o.size (by simp));clear C;obtain⟨⟨y0,y1,y2⟩,yf⟩:=zbn I.o;go_wp2;exact zbd HE.o I.o d.o Q.o N m fun W u0 u1 u2=>by simp[results,results79,go_sem,u0,u1,u2]
theorem zrb(B:Nat)(X:List Nat)(j:Jn)(w:World)(h:JAt w B X j)(hX:∀x∈X,x<w.heap.size)(wk:Int)(a:Option Addr)(c:Nat)(l:List (Int×ByteArray))(hS:SegW w a l)(hn:l.length*24≤140737488355328)(p q:Int):
  Calls Tryz.prog 77 #[.pointer (some ⟨B,0,none⟩),.int .i64 wk,.slice a l.length c,.int .i64 p,.int .i64 q] w fun e w'=>e=.returned (.int .i64 (zdx j wk l p q).2)∧JAt w' B X (zdx j wk l p q).1∧ButL [B] w.heap.size w w':=by
 have Z:=zab h;have A6:=h.lt;have O:=h.1;have S:=zab hX;have R:=zab hS;clear hS hX;go_enter Tryz.func77,Tryz.ntmps77;go_wp2_with fail;refine(zwf a c l p q _ R.o hn).mono ?_;rintro e A ⟨a2,c2,rfl,J,K,I,Q⟩;have C:=zab (Z.o.below I);have N:Hid (ButL [B] w.heap.size w A):=ButL.of_below I;have M:=zab (K.hideF (X:=X) (fun b off e=>Q b off e) S.o);have A3:B<A.heap.size:=C.o.lt;clear K I Q h;by_cases he:checkE l p q=0
 ·have D:Hid (zdx j wk l p q=({j with work:=wk,steps:=zbr l p q},0)):=by rw[Hid,zdx,if_pos he]
  rw[he];clear he;obtain⟨_,da,dc,db,dd,na,nc,nb,nd,ne,nf,sa,sc,sb,sd,se,sf,ca,cc,fa,fc,Y,U,F,_⟩:=id C.o;have A5:A.cell? ⟨B,55,none⟩=some (.int .i64 j.work):=zak F 55;have A1:A.frozen? ⟨B,55,none⟩=false:=frozen_of_row A _ _ _ _ F;have A4:A.cell? ⟨B,56,none⟩=some (.slice Y j.steps.length U):=zak F 56;have A0:A.frozen? ⟨B,56,none⟩=false:=frozen_of_row A _ _ _ _ F;clear F;obtain⟨ST,L⟩:∃ST,ST=zbr l p q:=⟨_,rfl⟩;rw[←L]at J M D⊢;clear L;go_wp2;go_ret;refine⟨by rw[D.o];rfl,?_,(N.o.set (.inl (by simp)) 55 _).set (.inl (by simp)) 56 _⟩;rw[D.o];exact(C.o.putWork wk).putSteps (M.o.ext (Ext.setL O 55 (.int .i64 wk))) J
 ·have D:Hid (zdx j wk l p q=(j,checkE l p q)):=by rw[Hid,zdx,if_neg he]
  have A2:(checkE l p q==0)=false:=by simpa using he
  clear he;generalize checkE l p q=E at *;go_wp2;go_ret;exact⟨by rw[D.o];rfl,by rw[D.o];exact C.o,N.o⟩
open Go.Proofs.Tryz
open Go.RowKit Go.Shelf
attribute [local go_sem] Oper.semAt_some
theorem z3i{l:List Tx}{k:Nat}(h:k<l.length):l.reverse.drop k=l.getD (l.length - 1 - k) txz::l.reverse.drop (k+1):=by
 rw[List.drop_eq_getElem_cons (by simpa using h),List.getElem_reverse,List.getD,List.getElem?_eq_getElem (by omega)];rfl
theorem zxq{l:List Tx}{k:Nat}(h:k<l.length)(b:Int):zcf (l.reverse.drop k) b=if zay (l.getD (l.length - 1 - k) txz).rev b=true then 0 else if(zai b (l.getD (l.length - 1 - k) txz).info).isSome=true then 1 else zcf (l.reverse.drop (k+1)) b:=by
 rw[z3i h,zcf]
theorem zj9{base:Nat}{w A B:World}{row:Option Nat}(h:Below base w A)(hb:base≤w.heap.size)(hg:A.grownBy B row)(hr:∀r,row=some r→base≤r):Below base w B:=
 h.trans ((Below.refl base A).grown hg (Nat.le_trans hb h.size) hr)
theorem zpj{n:Nat}{tmps:Array Value}{w V:World}{b Dm:Nat}{x y:Int}(hD:b<Dm)(hmk:V.heap[Dm]?=some (.deferred (some [])))(hB:Below w.heap.size w V)(hb:V.heap[b]?=some (.cells #[.int .i64 x] 3 (0,0)))(hw:w.heap.size≤b)
  (h4:tmps.getD 4 undef=.pointer (some ⟨b,0,none⟩)) (hy:x=y):
  bodyPostM Fence.wide n prog Tryz.f142 (fun e w'=>e=.returned (.int .i64 y)∧Below w.heap.size w w') .ret ⟨tmps,[{target:=.collected Dm,args:=#[]}]⟩ V:=by
 subst hy;refine zkg [Dm] V (by simp) (fun r hr=>by rw[List.mem_singleton.1 hr];exact hmk) ?_;have B:(z4f [Dm] V).heap[b]?=some (.cells #[.int .i64 x] 3 (0,0)):=(znv [Dm] V b (fun r hr=>by rw[List.mem_singleton.1 hr];omega)).trans hb;have C:=cell_of_row (z4f [Dm] V) _ 0 _ _ _ B;have A:tmps[4]?.getD undef=.pointer (some ⟨b,0,none⟩):=by simpa using h4
 refine⟨.int .i64 x,?_,rfl,hB.trans (znw [Dm] V (fun r hr=>by rw[List.mem_singleton.1 hr];omega) (by simp) (fun r hr=>by rw[List.mem_singleton.1 hr];exact hmk))⟩;simp[results,results142,go_sem,A,C]
theorem zm7(a:Option Addr)(c:Nat)(l:List Tx)(b:Int)(w:World)(h:SegTx w a l)(hn:l.length≤maxLen):
  Calls prog 142 #[.slice a l.length c,.int .i64 b] w fun e w'=>e=.returned (.int .i64 (zcf l.reverse b))∧Below w.heap.size w w':=by
 have HS:=zab h;clear h;refine(callsIn_wide (n:=9)).1 ?_;refine callsIn_of_wp_marks func142 rfl trivial ?_ rfl;simp only[ntmps142,List.size_toArray,List.length_cons,List.length_nil,Nat.reduceAdd,Nat.reduceSub,Array.replicate_succ,Array.replicate_zero,List.push_toArray,List.append_toArray,List.nil_append,List.cons_append]
 gi_wp2_with fail
 obtain⟨I,S⟩:∃I,I=(w.alloc (.cells #[.int .i64 b] 3)).alloc (.cells #[.int .i64 0] 3):=⟨_,rfl⟩;have D1:Below w.heap.size w I:=by rw[S];exact zae (zaa _ _) (zaa _ _)
 have C7:I.heap.size=w.heap.size+1+1:=by rw[S];simp
 have D2:I.heap[w.heap.size]?=some (.cells #[.int .i64 b] 3 (0,0)):=by rw[S];exact zgr (Below.refl _ _)
 have C8:(w.alloc (.cells #[.int .i64 b] 3)).heap.size=w.heap.size+1:=by simp
 have C1:I.heap[w.heap.size+1]?=some (.cells #[.int .i64 0] 3 (0,0)):=by rw[S,←C8];exact heap_alloc_new _ _
 rw[←S];clear S C8;have C5:=zab D1;have C2:=zab D2;have E:=zab C1;have i:=zab C7;clear D1 D2 C1 C7;refine⟨trivial,(z3g Fence.wide 8 trivial rfl a l.length c I).mono ?_⟩;rintro e L ⟨rfl,A6⟩;have A5:Below I.heap.size I L:=by rw[A6];exact zaa _ _
 have cS:L.cell? ⟨I.heap.size,0,none⟩=some (.slice a l.length c):=by rw[A6];simp[go_sem]
 have C6:L.heap.size=I.heap.size+1:=by rw[A6];simp
 have A7:=zab (zae C5.o A5);have D7:=zab (zad A5 (by have:=i.o;omega) C2.o);have B2:=zab (zad A5 (by have:=i.o;omega) E.o);have x:Hid (I.heap.size=w.heap.size+1+1∧L.heap.size=w.heap.size+1+1+1):=⟨i.o,by rw[C6,i.o]⟩;have D5:=zab (HS.o.below A7.o);have D8:=zab cS;clear A6 cS A5 C6 C2 E C5 i
 gi_wp2_with fail
 obtain⟨cc,D6,A9⟩:=zrt Fence.wide 8 trivial rfl (by decide) I.heap.size c a l hn L (by have:=x.o;omega) D8.o D5.o;have D3:=zab A9;clear A9
 refine zrs (F:=Fence.wide) (n:=9) rfl (by decide) (gf:=209) (lb:=#[.pointer (some ⟨I.heap.size,0,none⟩)]) rfl trivial (enters_of func209 (by kernel_rfl) rfl)
  D6 (Below.refl _ _) KeepsR.trans KeepsR.put (fun _=>rfl)
  (fun k V=>Below L.heap.size L V∧zcf l.reverse b=zcf (l.reverse.drop k) b)
  ?own ?start
  (fun q V=>Below w.heap.size w V∧w.heap.size+1+1+1≤V.heap.size∧((q=.ret∧zcf l.reverse b=0∧V.heap[w.heap.size+1]?=some (.cells #[.int .i64 0] 3 (0,0)))∨(q=.exit 0∧zcf l.reverse b=1∧V.heap[w.heap.size+1]?=some (.cells #[.int .i64 0] 3 (0,0)))))
  ?ownS
  (fun k a' V=>∃B6 A2 A4 t Y c0 s c1 r d,a'=⟨#[.slice a l.length c,.int .i64 b,undef,.pointer (some ⟨w.heap.size,0,none⟩),.pointer (some ⟨w.heap.size+1,0,none⟩),undef,.pointer (some ⟨B6,0,none⟩),undef,undef,.slice a l.length c,.func (.func 209) #[] #[.pointer (some ⟨I.heap.size,0,none⟩)],A2,A4,undef,undef,undef,undef,undef,undef,undef,undef,undef,undef,undef,undef],[]⟩∧Below L.heap.size L V∧zcf l.reverse b=zcf (l.reverse.drop k) b∧t=l.getD (l.length - 1 - k) txz∧L.heap.size≤B6∧V.heap[B6]?=some (.cells #[.int .i64 t.seq,.slice Y t.info.length c0,.slice s t.data.length c1,.slice r t.rev.length d,.bool t.h0.on,.int .i64 t.h0.left,.bool t.h1.on,.int .i64 t.h1.left,.bool t.h2.on,.int .i64 t.h2.left] 40 (0,0))∧IsTx L (.agg #[.int .i64 t.seq,.slice Y t.info.length c0,.slice s t.data.length c1,.slice r t.rev.length d,.bool t.h0.on,.int .i64 t.h0.left,.bool t.h1.on,.int .i64 t.h1.left,.bool t.h2.on,.int .i64 t.h2.left]) t)
  ?ownJ ?assign ?body ?done ?out
 case own=>
  rintro k A B row ⟨C,J⟩ N y;exact⟨zj9 C (Nat.le_refl _) N (fun r e=>(y r e).1),J⟩
 case start=>exact⟨Below.refl _ _,rfl⟩
 case ownS=>
  rintro q A B row ⟨C,J,h3⟩ N y;have z:=x.o;have B7:B.heap[w.heap.size+1]?=A.heap[w.heap.size+1]?:=N.block _ (by omega) (fun e=>by have:=(y _ e.symm).1;omega);exact⟨zj9 C (Nat.le_refl _) N (fun r e=>by have:=(y r e).1;omega),Nat.le_trans J N.size,by rw[B7];exact h3⟩
 case ownJ=>
  rintro k a' A B row ⟨B6,A2,A4,t,Y,c0,s,c1,r,d,rfl,C,J,j,C9,h6,hT⟩ N y;refine⟨B6,A2,A4,t,Y,c0,s,c1,r,d,rfl,zj9 C (Nat.le_refl _) N (fun r e=>(y r e).1),J,j,C9,?_,hT⟩;refine(N.block _ (Array.getElem?_eq_some_iff.1 h6).1 (fun e=>?_)).trans h6;obtain⟨_,o,M,hc⟩:=y _ e.symm;rw[h6]at M;cases M;cases hc
 case assign=>
  rintro lp k V K A0 ⟨C,J⟩ D4 R;unfold z3h;have hv:=D3.o (l.length - 1 - k) (by omega);obtain⟨t,j⟩:∃t,t=l.getD (l.length - 1 - k) txz:=⟨_,rfl⟩;rw[←j]at hv;have B3:=hv;obtain⟨Y,c0,s,c1,r,d,B1,_⟩:=hv;simp only[Value.agg.injEq]at B1;rw[B1]at B3⊢;have B8:=fun q (hq:q<V.heap.size)=>Below.heap_alloc V (.cells #[.int .i64 t.seq,.slice Y t.info.length c0,.slice s t.data.length c1,.slice r t.rev.length d,.bool t.h0.on,.int .i64 t.h0.left,.bool t.h1.on,.int .i64 t.h1.left,.bool t.h2.on,.int .i64 t.h2.left] 40) q hq;have A8:=zab B8;have HK:=zab R;have HT:=zab B3;have E0:=zab j;have Q:=zab C;have HR:=zab J;clear B8 R B3 B1 j C J
  gi_wp2
  refine HK.o _ _ (A8.o _ (by omega)) (A8.o _ (by omega)) (fun q _ o M _=>(A8.o q (Array.getElem?_eq_some_iff.1 M).1).trans M) ⟨V.heap.size,_,_,t,Y,c0,s,c1,r,d,rfl,Q.o.alloc Q.o.size _,HR.o,E0.o,Q.o.size,heap_alloc_new V _,HT.o⟩
 case body=>
  rintro lp k _ V A0 ⟨B6,A2,A4,t,Y,c0,s,c1,r,d,rfl,C,J,j,C9,h6,hT⟩ D4;have B5:=(hT.below C).rows;obtain⟨hI,_,C0,C3,_,C4⟩:=B5;have z:=x.o;obtain⟨⟨y0,y1,y2,y3,y4,y5,y6,y7,y8,y9⟩,_⟩:=zaj h6;have g3:=cell_of_row V _ 0 _ _ _ (zad C (show w.heap.size<L.heap.size by omega) D7.o);have Z:=zad C (show w.heap.size+1<L.heap.size by omega) B2.o;have g4:=cell_of_row V _ 0 _ _ _ Z;have f4:=frozen_of_row V _ 0 _ _ Z;have X:=zxq A0 b;rw[←j,←J]at X;have U:=zab X;have Q:=zab C;have HI:=zab hI;have E1:=zab C0;have E:=zab Z;have E5:=C.size;have D9:=zab C3;have E3:=zab C4
  have B0:∃b' A3,a=some ⟨b',A3,none⟩∧b'<w.heap.size:=by
   rcases HS.o with e|⟨b',A3,e,hlt,_⟩
   ·rw[e]at A0;simp at A0
   ·exact⟨b',A3,e,hlt⟩
  have E4:=zab B0;clear C J j h6 hT hI C0 X z Z y0 y2 y4 y5 y6 y7 y8 y9 C3 C4 B0
  gi_wp2_with fail
  refine⟨trivial,(CallsIn.inRound lp (callsIn_wide.2 (zc7 r d t.rev b V E1.o E3.o))).mono ?_⟩;rintro e V1 ⟨rfl,rfl⟩;by_cases hA:zay t.rev b=true
  ·have O:Hid (zcf l.reverse b=0):=by rw[Hid,U.o,if_pos hA]
   rw[hA];clear hA U
   gi_wp2
   have z:=x.o;obtain⟨b',A3,E2,E7⟩:=E4.o;refine⟨⟨Below.heap_setCell _ _ _ _ (by simp only;omega),Below.heap_setCell _ _ _ _ (by simp only;omega)⟩,fun q hq o M _=>(Below.heap_setCell _ _ _ _ ?_).trans M,(zae A7.o Q.o).setCell (p:=⟨w.heap.size+1,0,none⟩) (by simp only;omega) _,by simp only[World.setCell,Array.size_modify];omega,.inl ⟨rfl,O.o,heap_setCell_same _ _ 0 _ _ _ E.o⟩⟩;rcases hq with e|e
   ·rw[e];simp only;omega
   ·rw[e,E2];simp only[zy9];omega
  ·have B4:zay t.rev b=false:=by simpa using hA
   rw[B4]
   gi_wp2_with fail
   refine⟨trivial,(CallsIn.inRound lp (callsIn_wide.2 (zle Y c0 t.info b V HI.o D9.o))).mono ?_⟩;rintro e V1 ⟨rfl,A1⟩;by_cases hG:(zai b t.info).isSome=true
   ·have O:Hid (zcf l.reverse b=1):=by rw[Hid,U.o,if_neg hA,if_pos hG]
    have D:=zab A1;rw[hG];clear hA B4 hG U A1
    gi_wp2
    have z:=x.o;have E8:=D.o.size;exact⟨⟨D.o.block _ (by omega),D.o.block _ (by omega)⟩,fun q _ o M _=>zad D.o (Array.getElem?_eq_some_iff.1 M).1 M,zae (zae A7.o Q.o) D.o,by omega,.inr ⟨rfl,O.o,zad D.o (by omega) E.o⟩⟩
   ·have O:Hid (zcf l.reverse b=zcf (l.reverse.drop (k+1)) b):=by rw[Hid,U.o,if_neg hA,if_neg hG]
    have B9:(zai b t.info).isSome=false:=by simpa using hG
    have D:=zab A1;rw[B9];clear hA B4 hG B9 U A1
    gi_wp2
    have z:=x.o;exact⟨⟨D.o.block _ (by omega),D.o.block _ (by omega)⟩,fun q _ o M _=>zad D.o (Array.getElem?_eq_some_iff.1 M).1 M,zae Q.o D.o,O.o⟩
 case done=>
  rintro Dm V hD ⟨C,J⟩ R;have z:=x.o;have E5:=C.size;have Z:=zad C (show w.heap.size+1<L.heap.size by omega) B2.o;have g4:=cell_of_row V _ 0 _ _ _ Z;have f4:=frozen_of_row V _ 0 _ _ Z;have O:Hid (zcf l.reverse b=1):=by rw[Hid,J,List.drop_of_length_le (by simp)];rfl
  have m:=zab (zae A7.o C);have E:=zab Z;have u:=zab R;have E6:=(Array.getElem?_eq_some_iff.1 R).1;clear C J R Z
  gi_wp2
  refine zpj (b:=w.heap.size+1) (by omega) ((Below.heap_setCell _ _ _ _ (by simp only;omega)).trans u.o) (m.o.setCell (p:=⟨w.heap.size+1,0,none⟩) (by simp only;omega) _) (heap_setCell_same _ _ 0 _ _ _ E.o) (by omega) rfl O.o.symm
 case out=>
  rintro q Dm V hD ⟨C,J,h3⟩ R;have z:=x.o;rcases h3 with⟨rfl,h4,h5⟩|⟨rfl,h4,h5⟩
  ·have O:=zab h4;have m:=zab C;have E:=zab h5;have u:=zab R;clear h4 C h5 R
   gi_wp2
   exact zpj (b:=w.heap.size+1) (by omega) u.o m.o E.o (by omega) rfl O.o.symm
  ·have g4:=cell_of_row V _ 0 _ _ _ h5;have f4:=frozen_of_row V _ 0 _ _ h5;have O:=zab h4;have m:=zab C;have E:=zab h5;have u:=zab R;clear h4 C h5 R
   gi_wp2
   exact zpj (b:=w.heap.size+1) (by omega) ((Below.heap_setCell _ _ _ _ (by simp only;omega)).trans u.o) (m.o.setCell (p:=⟨w.heap.size+1,0,none⟩) (by simp only;omega) _) (heap_setCell_same _ _ 0 _ _ _ E.o) (by omega) rfl O.o.symm
