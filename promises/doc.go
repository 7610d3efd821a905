// Package promises has the tests of the document's promises: a file for each layer, named by its chapter, and in it a test for each promise. The tests ask the exported functions alone.
package promises
